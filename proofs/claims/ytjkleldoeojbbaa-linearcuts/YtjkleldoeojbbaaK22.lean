import Derived.Test.YtjkleldoeojbbaaK21
import Derived.Test.YtjkleldoeojbbaaGMa
namespace Go.Proofs.Ytjkleldoeojbbaa
open Go.RowKit Go.Maps
open Classical
set_option linter.unusedVariables false
set_option linter.unusedSimpArgs false

/-- The document's error of an entry. -/
def er18 (c n k s : Int) (v : ByteArray) : Int := if c < 0 ∨ 16 ≤ c then 62 else if n < 1 then 63 else ck k s v
theorem er18_ask (c n k s : Int) (v : ByteArray) : decide (er18 c n k s v = 0) = askB c n ⟨k, s, v⟩ := by
  unfold er18 askB
  by_cases h1 : c < 0
  · have : ¬ 0 ≤ c := by omega
    simp [h1, this]
  · by_cases h2 : 16 ≤ c
    · have h3 : ¬ c < 16 := by omega
      simp [h2, h3]
    · by_cases h3 : n < 1
      · have h4 : ¬ 1 ≤ n := by omega
        simp [h1, h2, h3, h4]
      · have h4 : 1 ≤ n := by omega
        have h5 : 0 ≤ c := by omega
        have h6 : c < 16 := by omega
        simp [h1, h2, h3, h4, h5, h6]
set_option maxRecDepth 100000 in
theorem refEntry18 (c n k s : Int) (v : ByteArray) (hf : (⟨k, s, v⟩ : Opn).fits) (w : World) : Calls Try.prog 40 #[.agg #[.int .i64 c, .int .i64 n, .int .i64 k, .int .i64 s, .string v]] w fun e w' => e = .returned (.int .i64 (er18 c n k s v)) ∧ Below w.heap.size w w' := by
  have cc := fun W => refcheck k s v hf W
  have bA := (Below.refl w.heap.size w).alloc (Nat.le_refl _) (.cells #[.int .i64 c, .int .i64 n, .int .i64 k, .int .i64 s, .string v] 92)
  by_cases h1 : c < 0
  · have hE : Hid (er18 c n k s v = 62) := by show _ = _; simp [er18, h1]
    have d1 : decide (c < 0) = true := by simpa using h1
    go_enter Try.func40, Try.ntmps40
    go_wp2
    go_ret
    exact ⟨ret18 hE.out.symm, bA⟩
  · by_cases h2 : 16 ≤ c
    · have hE : Hid (er18 c n k s v = 62) := by show _ = _; simp [er18, h2]
      go_enter Try.func40, Try.ntmps40
      go_wp2
      go_ret
      exact ⟨ret18 hE.out.symm, bA⟩
    · by_cases h3 : n < 1
      · have hE : Hid (er18 c n k s v = 63) := by show _ = _; simp [er18, h1, h2, h3]
        go_enter Try.func40, Try.ntmps40
        go_wp2
        go_ret
        exact ⟨ret18 hE.out.symm, bA⟩
      · have hE : Hid (er18 c n k s v = ck k s v) := by show _ = _; simp [er18, h1, h2, h3]
        generalize ck k s v = z at *
        go_enter Try.func40, Try.ntmps40
        go_wp2_with (go_at_call 31; refine (cc _).mono ?_; rintro e w2 ⟨rfl, b2⟩)
        go_ret
        exact ⟨ret18 hE.out.symm, bA.trans (b2.mono (by simp))⟩
theorem refPrec18 (x y : Kl) (w : World) : Calls Try.prog 119 #[x.val, y.val] w fun e w' => e = .returned (.bool (prcK x y)) ∧ Below w.heap.size w w' := by
  have bA := ((Below.refl w.heap.size w).alloc (Nat.le_refl _) (.cells x.cs.toArray 66)).alloc (by simp) (.cells y.cs.toArray 66)
  unfold prcK
  unfold Kl.val
  unfold Kl.cs at bA
  cases h : decide (0 ≤ x.e) <;> (
    go_enter Try.func119, Try.ntmps119
    go_wp2
    go_ret
    exact ⟨rfl, bA⟩)
theorem neqSelf (x : Kl) (w : World) : (binOp .neq 66 x.val x.val).run Try.prog w = .ok (.bool false) w := by
  unfold Kl.val
  go_simp
theorem neqK18 (a b : Operand) (x : Kl) (w : World) : (do eqGuard .neq 66 a b x.val x.val; binOp .neq 66 x.val x.val : Sem Value).run Try.prog w = .ok (.bool false) w := by
  rw [Sem.run_bind]
  have e : (eqGuard .neq 66 a b x.val x.val).run Try.prog w = .ok () w := by unfold Kl.val; go_simp
  rw [e, Result.andThen_ok]
  exact neqSelf x w
/-- Calls with a mark in the room behind them. -/
structure Lent (B : Nat) (w : World) (a : Option Addr) (n c : Nat) (L : List Kl) : Prop where
  sl : SlY yK w a n c L
  mrk : ∃ g, a = some ⟨g, 0, none⟩ ∧ B ≤ g ∧ g < w.heap.size ∧ n + 1 ≤ c ∧ w.cell? ⟨g, n * 10, none⟩ = some (.int .i64 (-77))
theorem Lent.later {B : Nat} {w w' : World} {a : Option Addr} {n c : Nat} {L : List Kl} (h : Lent B w a n c L) (hb : Below w.heap.size w w') : Lent B w' a n c L := by
  obtain ⟨g, e, h1, h2, h3, h4⟩ := h.mrk
  exact ⟨h.sl.later hb, g, e, h1, Nat.lt_of_lt_of_le h2 hb.size, h3, (hb.cell (p := ⟨g, n * 10, none⟩) h2).trans h4⟩
def kM : Kl := ⟨-77, 0, ⟨0, 0, ⟨#[]⟩⟩, 0, 0, (0, 0, ⟨#[]⟩)⟩
theorem slToK (q o n c k : Nat) (h1 : k ≤ n) (h2 : k ≤ c) (w : World) : (Instr.sliceAt 24 (.slice (some ⟨q, o, none⟩) n c) none (some (.int .i64 (k : Int))) none).run Try.prog w = .ok (.slice (some ⟨q, o, none⟩) k c) w := by
  have h3 : (k : Int) ≤ (c : Int) := by omega
  go_simp
theorem slUpK (q o n c k : Nat) (h2 : k ≤ c) (w : World) : (Instr.sliceAt 24 (.slice (some ⟨q, o, none⟩) n c) none (some (.int .i64 (k : Int))) none).run Try.prog w = .ok (.slice (some ⟨q, o, none⟩) k c) w := by
  have h3 : (k : Int) ≤ (c : Int) := by omega
  go_simp

end Go.Proofs.Ytjkleldoeojbbaa
