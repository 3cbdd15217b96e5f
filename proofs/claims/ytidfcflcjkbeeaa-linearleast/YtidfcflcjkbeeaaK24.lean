import Derived.Test.YtidfcflcjkbeeaaK23
namespace Go.Proofs.Ytidfcflcjkbeeaa
open Go.RowKit Go.Maps
open Classical
set_option linter.unusedVariables false
set_option linter.unusedSimpArgs false

theorem faK1o (q o : Nat) (w : World) : (Instr.fieldAt 50 (.pointer (some ⟨q, o, none⟩)) 1).run Try.prog w = .ok (.pointer (some ⟨q, o + 1, none⟩)) w := by go_simp
theorem leqC18 (x y : Operand) (a b : Int) (w : World) : (do eqGuard .leq 3 x y (.int .i64 a) (.int .i64 b); binOp .leq 3 (.int .i64 a) (.int .i64 b) : Sem Value).run Try.prog w = .ok (.bool (decide (a ≤ b))) w := by
  go_simp
theorem bdEn18 (c n k s : Int) (v : ByteArray) (w : World) : (Instr.build 82 #[(0, .int .i64 c), (1, .int .i64 n), (2, .agg #[.int .i64 k, .int .i64 s, .string v])]).run Try.prog w = .ok (.agg #[.int .i64 c, .int .i64 n, .int .i64 k, .int .i64 s, .string v]) w := by go_simp
theorem bdRs18 (w : World) : (Instr.build 48 #[]).run Try.prog w = .ok (.agg #[.int .i64 0, .int .i64 0, .string ⟨#[]⟩]) w := by go_simp
def a24 (x : Kl) : Bool := (!decide (er18 x.c x.n x.o.k x.o.s x.o.v = 0)) || decide (x.b < 0)
def b24 (x : Kl) : Bool := (decide (x.e = -1) && !decide (x.r = (0, 0, ⟨#[]⟩))) || (!decide (x.e = -1) && decide (x.e ≤ x.b))
theorem may24 (x : Kl) : mayK x = (!a24 x && !b24 x) := by
  unfold mayK a24 b24
  have e : er18 x.c x.n x.o.k x.o.s x.o.v = 0 ↔ askB x.c x.n x.o = true := by
    have := er18_ask x.c x.n x.o.k x.o.s x.o.v
    rw [show (⟨x.o.k, x.o.s, x.o.v⟩ : Opn) = x.o from rfl] at this
    rw [← this]
    simp
  cases ha : askB x.c x.n x.o with
  | false =>
    have : ¬ er18 x.c x.n x.o.k x.o.s x.o.v = 0 := by rw [e, ha]; simp
    simp [this]
  | true =>
    have : er18 x.c x.n x.o.k x.o.s x.o.v = 0 := by rw [e, ha]
    simp only [this, decide_true, Bool.not_true, Bool.false_or, Bool.true_and]
    by_cases hb : x.b < 0
    · have h2 : ¬ 0 ≤ x.b := by omega
      simp [hb, h2]
    · have h2 : 0 ≤ x.b := by omega
      by_cases he : x.e = -1
      · have h3 : ¬ x.b < x.e := by omega
        by_cases hr : x.r = (0, 0, ⟨#[]⟩)
        · have hr2 : x.r = (0, 0, ByteArray.empty) := hr
          simp [hb, h2, he, hr2]
          rfl
        · have hr2 : ¬ x.r = (0, 0, ByteArray.empty) := hr
          simp [hb, h2, he, hr, hr2]
          omega
      · by_cases hl : x.e ≤ x.b
        · have h3 : ¬ x.b < x.e := by omega
          simp [hb, h2, he, hl, h3]
        · have h3 : x.b < x.e := by omega
          simp [hb, h2, he, hl, h3]
theorem hasK_mono {l : List Kl} {c n : Int} {k i : Nat} (h : k ≤ i) (hh : hasK (l.take k) c n = true) : hasK (l.take i) c n = true := by
  unfold hasK at *
  rw [List.any_eq_true] at *
  obtain ⟨x, hx, h2⟩ := hh
  refine ⟨x, ?_, h2⟩
  have : l.take k = (l.take i).take k := by rw [List.take_take, Nat.min_eq_left h]
  rw [this] at hx
  exact List.mem_of_mem_take hx
theorem hasK_take {l : List Kl} {c n : Int} {k : Nat} {y : Kl} (h : l[k]? = some y) : hasK (l.take (k + 1)) c n = (hasK (l.take k) c n || (decide (y.c = c) && decide (y.n = n))) := by
  rw [List.take_add_one, h]
  exact hasK_snoc _ _ _ _
end Go.Proofs.Ytidfcflcjkbeeaa
