import Derived.Test.YtilngncjbikkgaaNx
import Derived.Test.YtilngncjbikkgaaDr
namespace Go.Proofs.Ytilngncjbikkgaa
open Go.RowKit
set_option linter.unusedVariables false

/-- What a Draw of a Pairs answers and keeps, of the reading and the memory. -/
def dH (R rd md : Int) : Int := if made R rd md = 65535 then 0 else R
def dL (R rd md : Int) : Int := if made R rd md = 65535 then 0 else made R rd md + 1
def dE (R rd md : Int) : Int := if made R rd md = 65535 then 20 else 0
def dR (R rd md : Int) : Int := if made R rd md = 65535 then rd else R
def dM (R rd md : Int) : Int := if made R rd md = 65535 then md else made R rd md + 1
theorem pdraw_any (p c : Nat) (R rd md : Int) (w : World) (h : Prs w p c rd md) (hc : Clk w c R) :
    Calls Try.prog 14 #[.pointer (some ⟨p, 0, none⟩)] w fun e w' => e = .returned (.tuple #[.agg #[.int .u64 (dH R rd md), .int .u64 (dL R rd md)], .int .i64 (dE R rd md)]) ∧ Prs w' p c (dR R rd md) (dM R rd md) ∧ Upd (· = p) w w' := by
  unfold dH dL dE dR dM
  by_cases hk : made R rd md = 65535
  · rw [if_pos hk, if_pos hk, if_pos hk, if_pos hk, if_pos hk]
    refine (draw_end p c R rd md w h hc hk).mono ?_
    rintro e w' ⟨rfl, b⟩
    exact ⟨rfl, h.upd (S := fun _ => False) (Upd.of_below b) id, Upd.of_below b⟩
  · rw [if_neg hk, if_neg hk, if_neg hk, if_neg hk, if_neg hk]
    exact draw_ok p c R rd md w h hc hk
/-- What a clock's Pass answers; its reading then. -/
def pE (R by_ : Int) : Int := if R + by_ ≤ 18446744073709551615 then 0 else 20
def pR (R by_ : Int) : Int := if R + by_ ≤ 18446744073709551615 then R + by_ else R
theorem pass_any (c : Nat) (R by_ : Int) (w : World) (h : Clk w c R) (h0 : 0 ≤ by_) :
    Calls Try.prog 12 #[.pointer (some ⟨c, 0, none⟩), .int .u64 by_] w fun e w' => e = .returned (.int .i64 (pE R by_)) ∧ Clk w' c (pR R by_) ∧ Upd (· = c) w w' := by
  unfold pE pR
  by_cases hk : R + by_ ≤ 18446744073709551615
  · rw [if_pos hk, if_pos hk]
    exact pass_ok c R by_ w h h0 hk
  · rw [if_neg hk, if_neg hk]
    refine (pass_end c R by_ w h (by omega)).mono ?_
    rintro e w' ⟨rfl, rfl⟩
    exact ⟨rfl, h, Upd.refl _ _⟩

/-- A source of mixed numbers at block m. -/
structure Mix (w : World) (m : Nat) (s : Int) : Prop where
  lt : m < w.heap.size
  c0 : w.cell? ⟨m, 0, none⟩ = some (.int .u64 s)
  f0 : w.frozen? ⟨m, 0, none⟩ = false
  lo : 0 ≤ s
  hi : s ≤ 18446744073709551615
theorem Mix.upd {S : Nat → Prop} {w w' : World} {m : Nat} {s : Int} (h : Mix w m s) (u : Upd S w w') (hs : ¬ S m) : Mix w' m s :=
  ⟨Nat.lt_of_lt_of_le h.lt u.size, (u.cell h.lt hs).trans h.c0, (u.frozen h.lt hs).trans h.f0, h.lo, h.hi⟩
theorem Mix.new (s : Int) (w : World) (h0 : 0 ≤ s) (h1 : s ≤ 18446744073709551615) : Mix (w.alloc (.cells #[.int .u64 s] 89)) w.heap.size s :=
  ⟨by simp, by simp, by simp, h0, h1⟩
theorem Mix.write {w : World} {m : Nat} {s : Int} (h : Mix w m s) (s' : Int) (h0 : 0 ≤ s') (h1 : s' ≤ 18446744073709551615) : Mix (w.setCell ⟨m, 0, none⟩ (.int .u64 s')) m s' := by
  obtain ⟨hlt, p0, pf, m0, m1⟩ := h
  refine ⟨?_, ?_, ?_, h0, h1⟩
  all_goals go_simp
theorem newmixed_any (s : Int) (w : World) :
    Calls Try.prog 25 #[.int .u64 s] w fun e w' => e = .returned (.pointer (some ⟨w.heap.size, 0, none⟩)) ∧ w' = w.alloc (.cells #[.int .u64 s] 89) := by
  go_enter Try.func25, Try.ntmps25
  go_wp2
  go_ret
  exact ⟨rfl, rfl⟩
/-- The state's next value; the word of a state. -/
def stp (s : Int) : Int := IntKind.u64.wrap (s + 11400714819323198485)
def mx1 (z : Int) : Int := IntKind.u64.wrap (bits .xor .u64 z (z / 1073741824) * 13787848793156543929)
def mx2 (z : Int) : Int := IntKind.u64.wrap (bits .xor .u64 z (z / 134217728) * 10723151780598845931)
def wordOf (z : Int) : Int := bits .xor .u64 (mx2 (mx1 z)) (mx2 (mx1 z) / 2147483648)
theorem stp_range (s : Int) : 0 ≤ stp s ∧ stp s ≤ 18446744073709551615 := by
  unfold stp
  rw [IntKind.wrap_u64]
  omega
theorem word_any (m : Nat) (s : Int) (w : World) (h : Mix w m s) :
    Calls Try.prog 52 #[.pointer (some ⟨m, 0, none⟩)] w fun e w' => e = .returned (.int .u64 (wordOf (stp s))) ∧ w' = w.setCell ⟨m, 0, none⟩ (.int .u64 (stp s)) := by
  obtain ⟨hlt, p0, pf, m0, m1⟩ := h
  go_enter Try.func52, Try.ntmps52
  go_wp2
  go_ret
  exact ⟨rfl, rfl⟩
set_option maxHeartbeats 400000 in
theorem mdraw_any (m : Nat) (s : Int) (w : World) (h : Mix w m s) :
    Calls Try.prog 51 #[.pointer (some ⟨m, 0, none⟩)] w fun e w' => e = .returned (.tuple #[.agg #[.int .u64 (wordOf (stp s)), .int .u64 (wordOf (stp (stp s)))], .int .i64 0]) ∧ Mix w' m (stp (stp s)) ∧ Upd (· = m) w w' := by
  have r1 := stp_range s
  have r2 := stp_range (stp s)
  have n0 : m ≠ w.heap.size := by have := h.lt; omega
  have ha : Mix (w.alloc (.cells #[.int .u64 0, .int .u64 0] 58)) m s := h.upd (S := fun _ => False) ((Upd.refl _ w).alloc _) id
  have hw := ha.write (stp s) r1.1 r1.2
  go_enter Try.func51, Try.ntmps51
  go_wp2_with fail
  refine (word_any m s _ ha).mono ?_
  rintro e w1 ⟨rfl, hw1⟩
  subst hw1
  go_wp2_with fail
  refine (word_any m (stp s) _ hw).mono ?_
  rintro e w2 ⟨rfl, hw2⟩
  have u2 : Upd (· = m) w w2 := hw2 ▸ (((Upd.refl (· = m) w).alloc _).setCell (.inl rfl) _).setCell (.inl rfl) _
  have m2 : Mix w2 m (stp (stp s)) := hw2 ▸ hw.write _ r2.1 r2.2
  have u3 : Upd (· = m) (w.alloc (.cells #[.int .u64 0, .int .u64 0] 58)) w2 := hw2 ▸ ((Upd.refl (· = m) _).setCell (.inl rfl) _).setCell (.inl rfl) _
  have d2 : w2.cell? ⟨w.heap.size, 0, none⟩ = some (.int .u64 0) := (u3.cell (p := ⟨w.heap.size, 0, none⟩) (by simp) n0.symm).trans (by simp)
  have d3 : w2.cell? ⟨w.heap.size, 1, none⟩ = some (.int .u64 0) := (u3.cell (p := ⟨w.heap.size, 1, none⟩) (by simp) n0.symm).trans (by simp)
  have f2 : w2.frozen? ⟨w.heap.size, 0, none⟩ = false := (u3.frozen (p := ⟨w.heap.size, 0, none⟩) (by simp) n0.symm).trans (by simp)
  have f3 : w2.frozen? ⟨w.heap.size, 1, none⟩ = false := (u3.frozen (p := ⟨w.heap.size, 1, none⟩) (by simp) n0.symm).trans (by simp)
  clear hw2 ha hw
  go_wp2
  refine bodyPost_ret (v := .tuple #[.agg #[.int .u64 (wordOf (stp s)), .int .u64 (wordOf (stp (stp s)))], .int .i64 0]) (by simp [results, Try.results51, go_sem, d2, d3]) rfl ⟨rfl, ?_, ?_⟩
  · exact (m2.upd ((Upd.refl (· = w.heap.size) w2).setCell (.inl rfl) _) n0).upd ((Upd.refl (· = w.heap.size) _).setCell (.inl rfl) _) n0
  · exact (u2.setCell (.inr (Nat.le_refl _)) _).setCell (.inr (Nat.le_refl _)) _

end Go.Proofs.Ytilngncjbikkgaa
