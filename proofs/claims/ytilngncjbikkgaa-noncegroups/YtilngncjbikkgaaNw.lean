import Derived.Test.YtilngncjbikkgaaNb
namespace Go.Proofs.Ytilngncjbikkgaa
open Go.RowKit
set_option linter.unusedVariables false

theorem newclock_any (R : Int) (w : World) :
    Calls Try.prog 10 #[.int .u64 R] w fun e w' => e = .returned (.pointer (some ⟨w.heap.size, 0, none⟩)) ∧ w' = w.alloc (.cells #[.int .u64 R] 82) := by
  go_enter Try.func10, Try.ntmps10
  go_wp2
  go_ret
  exact ⟨rfl, rfl⟩
theorem Clk.new (R : Int) (w : World) (h0 : 0 ≤ R) (h1 : R ≤ 18446744073709551615) : Clk (w.alloc (.cells #[.int .u64 R] 82)) w.heap.size R :=
  ⟨by simp, by simp, by simp, h0, h1⟩
theorem newpairs_any (c : Nat) (w : World) :
    Calls Try.prog 11 #[.pointer (some ⟨c, 0, none⟩)] w fun e w' => e = .returned (.tuple #[.pointer (some ⟨w.heap.size, 0, none⟩), .int .i64 0]) ∧ w' = w.alloc (.cells #[.pointer (some ⟨c, 0, none⟩), .int .u64 0, .int .u64 0] 78) := by
  go_enter Try.func11, Try.ntmps11
  go_wp2
  go_ret2
  exact ⟨rfl, rfl⟩
theorem Prs.new (c : Nat) (w : World) (h : c < w.heap.size) : Prs (w.alloc (.cells #[.pointer (some ⟨c, 0, none⟩), .int .u64 0, .int .u64 0] 78)) w.heap.size c 0 0 :=
  ⟨by simp, by simp, by simp, by simp, by simp, by simp, by omega, by omega, by omega⟩
theorem now_any (c : Nat) (R : Int) (w : World) (h : Clk w c R) :
    Calls Try.prog 13 #[.pointer (some ⟨c, 0, none⟩)] w fun e w' => e = .returned (.int .u64 R) ∧ w' = w := by
  obtain ⟨clt, k0, kf, klo, khi⟩ := h
  go_enter Try.func13, Try.ntmps13
  go_wp2
  go_ret
  exact ⟨rfl, rfl⟩
theorem pass_ok (c : Nat) (R by_ : Int) (w : World) (h : Clk w c R) (h0 : 0 ≤ by_) (hb : R + by_ ≤ 18446744073709551615) :
    Calls Try.prog 12 #[.pointer (some ⟨c, 0, none⟩), .int .u64 by_] w fun e w' => e = .returned (.int .i64 0) ∧ Clk w' c (R + by_) ∧ Upd (· = c) w w' := by
  have hh := hide h
  obtain ⟨clt, k0, kf, klo, khi⟩ := h
  have hd : decide (18446744073709551615 - R < by_) = false := by simp; omega
  have hm : (R + by_) % 18446744073709551616 = R + by_ := by omega
  go_enter Try.func12, Try.ntmps12
  go_wp2
  try go_quiet (fail)
  go_wp2
  go_ret
  exact ⟨rfl, hh.out.write _ (by omega) hb, (Upd.refl (· = c) w).setCell (.inl rfl) _⟩
theorem pass_end (c : Nat) (R by_ : Int) (w : World) (h : Clk w c R) (hb : 18446744073709551615 < R + by_) :
    Calls Try.prog 12 #[.pointer (some ⟨c, 0, none⟩), .int .u64 by_] w fun e w' => e = .returned (.int .i64 20) ∧ w' = w := by
  obtain ⟨clt, k0, kf, klo, khi⟩ := h
  have hd : decide (18446744073709551615 - R < by_) = true := by simp; omega
  go_enter Try.func12, Try.ntmps12
  go_wp2
  go_ret
  exact ⟨rfl, rfl⟩
theorem set_ok (c : Nat) (R at_ : Int) (w : World) (h : Clk w c R) (hb : R ≤ at_) (h1 : at_ ≤ 18446744073709551615) :
    Calls Try.prog 26 #[.pointer (some ⟨c, 0, none⟩), .int .u64 at_] w fun e w' => e = .returned (.int .i64 0) ∧ Clk w' c at_ ∧ Upd (· = c) w w' := by
  have hh := hide h
  obtain ⟨clt, k0, kf, klo, khi⟩ := h
  have hd : decide (at_ < R) = false := by simp; omega
  go_enter Try.func26, Try.ntmps26
  go_wp2
  go_ret
  exact ⟨rfl, hh.out.write _ (by omega) h1, (Upd.refl (· = c) w).setCell (.inl rfl) _⟩
theorem set_past (c : Nat) (R at_ : Int) (w : World) (h : Clk w c R) (hb : at_ < R) :
    Calls Try.prog 26 #[.pointer (some ⟨c, 0, none⟩), .int .u64 at_] w fun e w' => e = .returned (.int .i64 22) ∧ w' = w := by
  obtain ⟨clt, k0, kf, klo, khi⟩ := h
  have hd : decide (at_ < R) = true := by simp; omega
  go_enter Try.func26, Try.ntmps26
  go_wp2
  go_ret
  exact ⟨rfl, rfl⟩

end Go.Proofs.Ytilngncjbikkgaa
