import Derived.Test.YtegkkoggfjgkbaaWp
namespace Go.Proofs.Ytegkkoggfjgkbaa.Wi
open Go.RowKit
set_option linter.unusedVariables false

/-- A thing that is laid down. -/
structure Pt where
  K : Int
  V : Int
  N : Int
  m : Int
  s : ByteArray
def Pt.err (p : Pt) : Int := ptErr p.K p.N p.m p.s
def Pt.bytes (p : Pt) : List Int := ptBytes p.K p.V p.N p.s
def Pt.val (p : Pt) : Value := putV p.K p.V p.N p.m p.s
def Pt.fits (p : Pt) : Prop := 0 ≤ p.V ∧ p.V < 18446744073709551616 ∧ -9223372036854775808 ≤ p.N ∧ p.N ≤ 9223372036854775807 ∧ -9223372036854775808 ≤ p.m ∧ p.m ≤ 9223372036854775807
def allBytes (P : List Pt) : List Int := P.flatMap Pt.bytes
def firstErr : List Pt → Int
  | [] => 0
  | p :: r => if p.err = 0 then firstErr r else p.err
theorem allBytes_snoc (P : List Pt) (p : Pt) : allBytes (P ++ [p]) = allBytes P ++ p.bytes := by simp [allBytes]
theorem firstErr_snoc (P : List Pt) (p : Pt) : firstErr (P ++ [p]) = if firstErr P = 0 then p.err else firstErr P := by
  induction P with
  | nil =>
    by_cases h : p.err = 0
    · simp [firstErr, h]
    · simp [firstErr, h]
  | cons q r ih =>
    by_cases h : q.err = 0
    · have e1 : firstErr (q :: r) = firstErr r := by simp [firstErr, h]
      have e2 : firstErr (q :: r ++ [p]) = firstErr (r ++ [p]) := by simp [firstErr, h]
      rw [e2, ih]
      simp only [e1]
    · have e1 : firstErr (q :: r) = q.err := by simp [firstErr, h]
      have e2 : firstErr (q :: r ++ [p]) = q.err := by simp [firstErr, h]
      rw [e2]
      simp only [e1, if_neg h]
theorem firstErr_zero (P : List Pt) : firstErr P = 0 ↔ ∀ p ∈ P, p.err = 0 := by
  induction P with
  | nil => simp [firstErr]
  | cons q r ih =>
    simp only [firstErr]
    by_cases h : q.err = 0
    · rw [if_pos h, ih]; simp [h]
    · rw [if_neg h]; simp [h]
theorem take_snoc (P : List Pt) (k : Nat) (h : k < P.length) : P.take (k + 1) = P.take k ++ [P[k]] := by rw [List.take_add_one, List.getElem?_eq_getElem h]; rfl
/-- The things that come in: five cells each. -/
def Puts (w : World) (a : Option Addr) (P : List Pt) : Prop := ∀ i (h : i < P.length), P[i].fits ∧ ∃ b o, a = some ⟨b, o, none⟩ ∧ w.cell? ⟨b, o + i * 5, none⟩ = some (.int .i64 P[i].K) ∧ w.cell? ⟨b, o + i * 5 + 1, none⟩ = some (.int .u64 P[i].V) ∧ w.cell? ⟨b, o + i * 5 + 2, none⟩ = some (.int .i64 P[i].N) ∧ w.cell? ⟨b, o + i * 5 + 3, none⟩ = some (.int .i64 P[i].m) ∧ w.cell? ⟨b, o + i * 5 + 4, none⟩ = some (.string P[i].s)

theorem wbytes_bad (b : Nat) (E : Int) (w : World) (h : WBad w b E) :
    Calls Try.prog 10 #[.pointer (some ⟨b, 0, none⟩)] w fun e w' => e = .returned (.tuple #[.slice none 0 0, .int .i64 E]) ∧ ∃ k, w' = w.drewN k := by
  obtain ⟨lt, ne, c0, c1, c2, f0, f1, f2⟩ := h
  have hb : (E != 0) = true := by simp [ne]
  go_enter Try.func10, Try.ntmps10
  go_wp2
  go_quiet (fail)
  go_wp2
  go_ret2
  exact ⟨rfl, _, rfl⟩
end Go.Proofs.Ytegkkoggfjgkbaa.Wi
