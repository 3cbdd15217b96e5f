import Derived.Test.YtnndldhljonnpaaDoorNb
namespace Go.Proofs.YtnndldhljonnpaaDoor
open Go.RowKit
set_option linter.unusedVariables false

theorem newclock_any (R : Int) (w : World) :
    Calls Tryd.prog 20 #[.int .u64 R] w fun e w' => e = .returned (.pointer (some ⟨w.heap.size, 0, none⟩)) ∧ w' = w.alloc (.cells #[.int .u64 R] 58) := by
  go_enter Tryd.func20, Tryd.ntmps20
  go_wp2
  go_ret
  exact ⟨rfl, rfl⟩
theorem Clk.new (R : Int) (w : World) (h0 : 0 ≤ R) (h1 : R ≤ 18446744073709551615) : Clk (w.alloc (.cells #[.int .u64 R] 58)) w.heap.size R :=
  ⟨by simp, by simp, by simp, h0, h1⟩
theorem newpairs_any (c : Nat) (w : World) :
    Calls Tryd.prog 21 #[.pointer (some ⟨c, 0, none⟩)] w fun e w' => e = .returned (.tuple #[.pointer (some ⟨w.heap.size, 0, none⟩), .int .i64 0]) ∧ w' = w.alloc (.cells #[.pointer (some ⟨c, 0, none⟩), .int .u64 0, .int .u64 0] 62) := by
  go_enter Tryd.func21, Tryd.ntmps21
  go_wp2
  go_ret2
  exact ⟨rfl, rfl⟩
theorem Prs.new (c : Nat) (w : World) (h : c < w.heap.size) : Prs (w.alloc (.cells #[.pointer (some ⟨c, 0, none⟩), .int .u64 0, .int .u64 0] 62)) w.heap.size c 0 0 :=
  ⟨by simp, by simp, by simp, by simp, by simp, by simp, by omega, by omega, by omega⟩
theorem now_any (c : Nat) (R : Int) (w : World) (h : Clk w c R) :
    Calls Tryd.prog 23 #[.pointer (some ⟨c, 0, none⟩)] w fun e w' => e = .returned (.int .u64 R) ∧ w' = w := by
  obtain ⟨clt, k0, kf, klo, khi⟩ := h
  go_enter Tryd.func23, Tryd.ntmps23
  go_wp2
  go_ret
  exact ⟨rfl, rfl⟩
theorem pass_ok (c : Nat) (R by_ : Int) (w : World) (h : Clk w c R) (h0 : 0 ≤ by_) (hb : R + by_ ≤ 18446744073709551615) :
    Calls Tryd.prog 22 #[.pointer (some ⟨c, 0, none⟩), .int .u64 by_] w fun e w' => e = .returned (.int .i64 0) ∧ Clk w' c (R + by_) ∧ Upd (· = c) w w' := by
  have hh := hide h
  obtain ⟨clt, k0, kf, klo, khi⟩ := h
  have hd : decide (18446744073709551615 - R < by_) = false := by simp; omega
  have hm : (R + by_) % 18446744073709551616 = R + by_ := by omega
  go_enter Tryd.func22, Tryd.ntmps22
  go_wp2
  try go_quiet (fail)
  go_wp2
  go_ret
  exact ⟨rfl, hh.out.write _ (by omega) hb, (Upd.refl (· = c) w).setCell (.inl rfl) _⟩
theorem pass_end (c : Nat) (R by_ : Int) (w : World) (h : Clk w c R) (hb : 18446744073709551615 < R + by_) :
    Calls Tryd.prog 22 #[.pointer (some ⟨c, 0, none⟩), .int .u64 by_] w fun e w' => e = .returned (.int .i64 20) ∧ w' = w := by
  obtain ⟨clt, k0, kf, klo, khi⟩ := h
  have hd : decide (18446744073709551615 - R < by_) = true := by simp; omega
  go_enter Tryd.func22, Tryd.ntmps22
  go_wp2
  go_ret
  exact ⟨rfl, rfl⟩
set_option maxHeartbeats 400000 in
/-- Two draws at one reading, from a clock that has passed. -/
theorem works_any (w : World) :
    Calls Tryd.prog 12 #[] w fun e w' => e = .returned (.bool true) ∧ Below w.heap.size w w' := by
  have hf := w.heap.size.lt_irrefl
  go_enter Tryd.func12, Tryd.ntmps12
  go_wp2_with fail
  refine (newclock_any _ _).mono ?_
  rintro e w1 ⟨rfl, hw1⟩
  have c1 : Clk w1 w.heap.size 5 := hw1 ▸ Clk.new 5 w (by omega) (by omega)
  have b1 : Below w.heap.size w w1 := hw1 ▸ (Below.refl _ _).alloc (Nat.le_refl _) _
  clear hw1
  go_wp2_with fail
  refine (newpairs_any _ _).mono ?_
  rintro e w2 ⟨rfl, hw2⟩
  have u2 : Upd (fun _ => False) w1 w2 := hw2 ▸ (Upd.refl _ _).alloc _
  have p2 : Prs w2 w1.heap.size w.heap.size 0 0 := hw2 ▸ Prs.new _ _ c1.lt
  have c2 : Clk w2 w.heap.size 5 := c1.upd u2 id
  have b2 : Below w.heap.size w w2 := b1.trans (u2.below b1.size (fun _ h => h.elim))
  clear hw2
  have hne := p2.ne
  go_wp2_with fail
  refine (pass_ok _ 5 2 _ c2 (by omega) (by omega)).mono ?_
  rintro e w3 ⟨rfl, c3, u3⟩
  rw [show (5 : Int) + 2 = 7 from by decide] at c3
  have p3 := p2.upd u3 hne.symm
  have b3 : Below w.heap.size w w3 := b2.trans (u3.below b2.size (by rintro k rfl; exact Nat.le_refl _))
  go_wp2_with fail
  refine (now_any _ _ _ c3).mono ?_
  rintro e w4 ⟨rfl, rfl⟩
  go_wp2_with fail
  refine (draw_ok _ _ 7 0 0 _ p3 c3 (by decide)).mono ?_
  rintro e w5 ⟨rfl, p5, u5⟩
  rw [show made 7 0 0 + 1 = 1 from by decide] at p5 ⊢
  have c5 := c3.upd u5 hne
  have b5 : Below w.heap.size w w5 := b3.trans (u5.below b3.size (by rintro k rfl; exact b1.size))
  clear u5 p3
  go_wp2_with fail
  refine (draw_ok _ _ 7 7 1 _ (p5.upd (S := fun _ => False) ((Upd.refl _ _).alloc _) id) (c5.upd (S := fun _ => False) ((Upd.refl _ _).alloc _) id) (by decide)).mono ?_
  rintro e w6 ⟨rfl, p6, u6⟩
  rw [show made 7 7 1 + 1 = 2 from by decide] at p6 ⊢
  have l5 := p5.lt
  have a0 : w6.cell? ⟨w5.heap.size, 0, none⟩ = some (.int .u64 7) := (u6.cell (p := ⟨w5.heap.size, 0, none⟩) (by simp) (by show ¬ w5.heap.size = w1.heap.size; omega)).trans (by simp)
  have a1 : w6.cell? ⟨w5.heap.size, 1, none⟩ = some (.int .u64 1) := (u6.cell (p := ⟨w5.heap.size, 1, none⟩) (by simp) (by show ¬ w5.heap.size = w1.heap.size; omega)).trans (by simp)
  have b6 : Below w.heap.size w w6 := (b5.alloc b5.size _).trans (u6.below (by have := b5.size; simp; omega) (by rintro k rfl; exact b1.size))
  have l6 : w5.heap.size < w6.heap.size := by have := u6.size; simp at this; omega
  have a2 : ∀ o, (w6.alloc o).cell? ⟨w5.heap.size, 0, none⟩ = some (.int .u64 7) := fun o => (World.cell?_alloc_past _ _ _ l6).trans a0
  have a3 : ∀ o, (w6.alloc o).cell? ⟨w5.heap.size, 1, none⟩ = some (.int .u64 1) := fun o => (World.cell?_alloc_past _ _ _ l6).trans a1
  clear u6 p5 p6 c5 c3 p2 c2
  go_wp2
  go_ret
  exact ⟨rfl, b6.alloc b6.size _⟩

end Go.Proofs.YtnndldhljonnpaaDoor
