import Derived.Test.YtegfbebhgihcaaaNki
namespace Go.Proofs.Ytegfbebhgihcaaa
open Go.RowKit Go.Maps
set_option linter.unusedVariables false
set_option linter.unusedSimpArgs false

/-! ### A net that no call made -/
structure Zn (w : World) (b : Nat) : Prop where
  lt : b < w.heap.size
  c0 : w.cell? ⟨b, 0, none⟩ = some (.int .i64 0)
  c1 : w.cell? ⟨b, 1, none⟩ = some (.int .i64 0)
  c2 : w.cell? ⟨b, 2, none⟩ = some (.slice none 0 0)
  c3 : w.cell? ⟨b, 3, none⟩ = some (.slice none 0 0)
  c4 : w.cell? ⟨b, 4, none⟩ = some (.map none)
  fr : ∀ i, w.frozen? ⟨b, i, none⟩ = false
variable {w w' : World} {b : Nat}
theorem Zn.later (h : Zn w b) (hb : Below w.heap.size w w') : Zn w' b :=
  ⟨Nat.lt_of_lt_of_le h.lt hb.size, (hb.cell (p := ⟨b, 0, none⟩) h.lt).trans h.c0, (hb.cell (p := ⟨b, 1, none⟩) h.lt).trans h.c1, (hb.cell (p := ⟨b, 2, none⟩) h.lt).trans h.c2, (hb.cell (p := ⟨b, 3, none⟩) h.lt).trans h.c3, (hb.cell (p := ⟨b, 4, none⟩) h.lt).trans h.c4, fun i => (hb.frozen (p := ⟨b, i, none⟩) h.lt).trans (h.fr i)⟩
theorem Zn.al (h : Zn w b) (o : Obj) : Zn (w.alloc o) b := h.later ((Below.refl _ _).alloc (Nat.le_refl _) o)
theorem within0 (w : World) : Calls Try.prog 77 #[.int .i64 0, .int .i64 0] w fun e w' => e = .returned (.bool false) ∧ w' = w := isWithin_any 0 0 w
theorem isAddress_z (a : Int) (h : Zn w b) (ha : a = 0 ∨ a = 1) : Calls Try.prog 75 #[.pointer (some ⟨b, 0, none⟩), .int .i64 a] w fun e w' => e = .returned (.bool false) ∧ w' = w := by
  have h0 := h.c0
  have h1 := h.c1
  have HC : Hid (Calls Try.prog 77 #[.int .i64 a, .int .i64 0] w fun e w' => e = .returned (.bool false) ∧ w' = w) := by
    have := isWithin_any a 0 w
    rw [show (decide (0 ≤ a) && decide (a < 0)) = false by rcases ha with rfl | rfl <;> rfl] at this
    exact this
  have e7 : decide (7 ≤ a) = false := by rcases ha with rfl | rfl <;> rfl
  clear h ha
  go_enter Try.func75, Try.ntmps75
  go_wp2_with fail
  refine HC.out.mono ?_
  rintro e w1 ⟨rfl, hy_⟩
  rw [hy_]; clear hy_ w1
  go_wp2
  go_ret
  exact ⟨rfl, rfl⟩
set_option maxRecDepth 100000 in
theorem send_z (x : Ap) (h : Zn w b) (hf : x.f = 0) : Calls Try.prog 25 #[.pointer (some ⟨b, 0, none⟩), x.val] w fun e w' => e = .returned (.int .i64 140) ∧ Below w.heap.size w w' := by
  have HA : ∀ o, Hid (Calls Try.prog 75 #[.pointer (some ⟨b, 0, none⟩), .int .i64 0] (w.alloc o) fun e w' => e = .returned (.bool false) ∧ w' = w.alloc o) := fun o => isAddress_z 0 (h.al o) (.inl rfl)
  clear h
  unfold Ap.val
  rw [hf]
  go_enter Try.func25, Try.ntmps25
  go_wp2_with fail
  refine (HA _).out.mono ?_
  rintro e w1 ⟨rfl, hy_⟩
  rw [hy_]; clear hy_ w1
  go_wp2
  go_ret
  exact ⟨rfl, (Below.refl _ _).alloc (Nat.le_refl _) _⟩
set_option maxRecDepth 100000 in
theorem inject_z (x : Ap) (h : Zn w b) (hf : x.t = 1) : Calls Try.prog 35 #[.pointer (some ⟨b, 0, none⟩), x.val] w fun e w' => e = .returned (.int .i64 140) ∧ Below w.heap.size w w' := by
  have HA : ∀ o, Hid (Calls Try.prog 75 #[.pointer (some ⟨b, 0, none⟩), .int .i64 1] (w.alloc o) fun e w' => e = .returned (.bool false) ∧ w' = w.alloc o) := fun o => isAddress_z 1 (h.al o) (.inr rfl)
  clear h
  unfold Ap.val
  rw [hf]
  go_enter Try.func35, Try.ntmps35
  go_wp2_with fail
  refine (HA _).out.mono ?_
  rintro e w1 ⟨rfl, hy_⟩
  rw [hy_]; clear hy_ w1
  go_wp2
  go_ret
  exact ⟨rfl, (Below.refl _ _).alloc (Nat.le_refl _) _⟩
theorem len14_z (h : Zn w b) : Calls Try.prog 34 #[.pointer (some ⟨b, 0, none⟩)] w fun e w' => e = .returned (.int .i64 0) ∧ w' = w := by
  have c2 := h.c2
  clear h
  go_enter Try.func34, Try.ntmps34
  go_wp2
  go_ret
  exact ⟨rfl, rfl⟩
theorem sent_z (h : Zn w b) : Calls Try.prog 43 #[.pointer (some ⟨b, 0, none⟩)] w fun e w' => e = .returned (.int .i64 0) ∧ w' = w := by
  have c3 := h.c3
  clear h
  go_enter Try.func43, Try.ntmps43
  go_wp2
  go_ret
  exact ⟨rfl, rfl⟩
theorem copy_z (h : Zn w b) : Calls Try.prog 28 #[.pointer (some ⟨b, 0, none⟩), .int .i64 0] w fun e w' => e = .returned (.int .i64 141) ∧ w' = w := by
  have c2 := h.c2
  clear h
  go_enter Try.func28, Try.ntmps28
  go_wp2_with fail
  refine (within0 _).mono ?_
  rintro e w1 ⟨rfl, hy_⟩
  rw [hy_]; clear hy_ w1
  go_wp2
  go_ret
  exact ⟨rfl, rfl⟩
theorem drop_z (h : Zn w b) : Calls Try.prog 29 #[.pointer (some ⟨b, 0, none⟩), .int .i64 0] w fun e w' => e = .returned (.int .i64 141) ∧ w' = w := by
  have c2 := h.c2
  clear h
  go_enter Try.func29, Try.ntmps29
  go_wp2_with fail
  refine (within0 _).mono ?_
  rintro e w1 ⟨rfl, hy_⟩
  rw [hy_]; clear hy_ w1
  go_wp2
  go_ret
  exact ⟨rfl, rfl⟩
theorem turn_z (h : Zn w b) : Calls Try.prog 30 #[.pointer (some ⟨b, 0, none⟩), .int .i64 0, .int .i64 0, .int .u8 1] w fun e w' => e = .returned (.int .i64 141) ∧ w' = w := by
  have c2 := h.c2
  clear h
  go_enter Try.func30, Try.ntmps30
  go_wp2_with fail
  refine (within0 _).mono ?_
  rintro e w1 ⟨rfl, hy_⟩
  rw [hy_]; clear hy_ w1
  go_wp2
  go_ret
  exact ⟨rfl, rfl⟩
theorem swap_z (h : Zn w b) : Calls Try.prog 31 #[.pointer (some ⟨b, 0, none⟩), .int .i64 0, .int .i64 0] w fun e w' => e = .returned (.int .i64 141) ∧ w' = w := by
  have c2 := h.c2
  clear h
  go_enter Try.func31, Try.ntmps31
  go_wp2_with fail
  refine (within0 _).mono ?_
  rintro e w1 ⟨rfl, hy_⟩
  rw [hy_]; clear hy_ w1
  go_wp2
  go_ret
  exact ⟨rfl, rfl⟩
theorem clear_z (h : Zn w b) : Calls Try.prog 32 #[.pointer (some ⟨b, 0, none⟩)] w fun e w' => e = .returned (.tuple #[]) ∧ Zn w' b ∧ Upd (fun k => k = b) w w' := by
  have c2 := h.c2
  have f2 := h.fr 2
  have HN := hide h
  clear h
  go_enter Try.func32, Try.ntmps32
  go_wp2
  go_end0
  exact ⟨rfl, ⟨by simpa using HN.out.lt, setc_ne HN.out.c0 (by decide), setc_ne HN.out.c1 (by decide), setc_eq HN.out.c2, setc_ne HN.out.c3 (by decide), setc_ne HN.out.c4 (by decide), fun i => setf (HN.out.fr i)⟩, (Upd.refl (fun k => k = b) w).setCell (p := ⟨b, 2, none⟩) (.inl rfl) _⟩

end Go.Proofs.Ytegfbebhgihcaaa
