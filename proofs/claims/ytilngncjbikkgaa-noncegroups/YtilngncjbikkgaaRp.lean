import Derived.Test.YtilngncjbikkgaaOd
import Derived.Test.YtilngncjbikkgaaMx
namespace Go.Proofs.Ytilngncjbikkgaa
open Go.RowKit
set_option linter.unusedVariables false

/-- The document's clock. -/
structure RClk (w : World) (c : Nat) (R : Int) : Prop where
  lt : c < w.heap.size
  c0 : w.cell? ⟨c, 0, none⟩ = some (.int .u64 R)
  f0 : w.frozen? ⟨c, 0, none⟩ = false
  lo : 0 ≤ R
  hi : R ≤ 18446744073709551615
theorem RClk.upd {S : Nat → Prop} {w w' : World} {c : Nat} {R : Int} (h : RClk w c R) (u : Upd S w w') (hs : ¬ S c) : RClk w' c R :=
  ⟨Nat.lt_of_lt_of_le h.lt u.size, (u.cell h.lt hs).trans h.c0, (u.frozen h.lt hs).trans h.f0, h.lo, h.hi⟩
theorem RClk.write {w : World} {c : Nat} {R : Int} (h : RClk w c R) (R' : Int) (h0 : 0 ≤ R') (h1 : R' ≤ 18446744073709551615) : RClk (w.setCell ⟨c, 0, none⟩ (.int .u64 R')) c R' := by
  obtain ⟨hlt, p0, pf, m0, m1⟩ := h
  refine ⟨?_, ?_, ?_, h0, h1⟩
  all_goals go_simp
/-- What Set answers; the reading then. -/
def sE (R x : Int) : Int := if x < R then 22 else 0
def sR (R x : Int) : Int := if x < R then R else x
theorem set_any (c : Nat) (R x : Int) (w : World) (h : Clk w c R) (h1 : x ≤ 18446744073709551615) :
    Calls Try.prog 26 #[.pointer (some ⟨c, 0, none⟩), .int .u64 x] w fun e w' => e = .returned (.int .i64 (sE R x)) ∧ Clk w' c (sR R x) ∧ Upd (· = c) w w' := by
  unfold sE sR
  by_cases hk : x < R
  · rw [if_pos hk, if_pos hk]
    refine (set_past c R x w h hk).mono ?_
    rintro e w' ⟨rfl, rfl⟩
    exact ⟨rfl, h, Upd.refl _ _⟩
  · rw [if_neg hk, if_neg hk]
    exact set_ok c R x w h (by omega) h1
theorem rset_any (c : Nat) (R x : Int) (w : World) (h : RClk w c R) (h1 : x ≤ 18446744073709551615) :
    Calls Try.prog 27 #[.pointer (some ⟨c, 0, none⟩), .int .u64 x] w fun e w' => e = .returned (.int .i64 (sE R x)) ∧ RClk w' c (sR R x) ∧ Upd (· = c) w w' := by
  have hh := hide h
  obtain ⟨clt, k0, kf, klo, khi⟩ := h
  unfold sE sR
  by_cases hk : x < R
  · rw [if_pos hk, if_pos hk]
    have hd : decide (x < R) = true := by simp; omega
    go_enter Try.func27, Try.ntmps27
    go_wp2
    go_ret
    exact ⟨rfl, hh.out, Upd.refl _ _⟩
  · rw [if_neg hk, if_neg hk]
    have hd : decide (x < R) = false := by simp; omega
    go_enter Try.func27, Try.ntmps27
    go_wp2
    go_ret
    exact ⟨rfl, hh.out.write _ (by omega) h1, (Upd.refl (· = c) w).setCell (.inl rfl) _⟩
theorem rpass_any (c : Nat) (R x : Int) (w : World) (h : RClk w c R) (h0 : 0 ≤ x) :
    Calls Try.prog 28 #[.pointer (some ⟨c, 0, none⟩), .int .u64 x] w fun e w' => e = .returned (.int .i64 (pE R x)) ∧ RClk w' c (pR R x) ∧ Upd (· = c) w w' := by
  have hh := hide h
  obtain ⟨clt, k0, kf, klo, khi⟩ := h
  unfold pE pR
  by_cases hk : R + x ≤ 18446744073709551615
  · rw [if_pos hk, if_pos hk]
    have hd : decide (18446744073709551615 - R < x) = false := by simp; omega
    have hm : (R + x) % 18446744073709551616 = R + x := by omega
    go_enter Try.func28, Try.ntmps28
    go_wp2
    try (go_quiet (fail); go_wp2)
    go_ret
    exact ⟨rfl, hh.out.write _ (by omega) hk, (Upd.refl (· = c) w).setCell (.inl rfl) _⟩
  · rw [if_neg hk, if_neg hk]
    have hd : decide (18446744073709551615 - R < x) = true := by simp; omega
    go_enter Try.func28, Try.ntmps28
    go_wp2
    go_ret
    exact ⟨rfl, hh.out, Upd.refl _ _⟩

/-- The document's Mixed. -/
theorem rword_any (m : Nat) (s : Int) (w : World) (h : Mix w m s) :
    Calls Try.prog 35 #[.pointer (some ⟨m, 0, none⟩)] w fun e w' => e = .returned (.int .u64 (wordOf (stp s))) ∧ w' = w.setCell ⟨m, 0, none⟩ (.int .u64 (stp s)) := by
  obtain ⟨hlt, p0, pf, m0, m1⟩ := h
  go_enter Try.func35, Try.ntmps35
  go_wp2
  go_ret
  exact ⟨rfl, rfl⟩
set_option maxHeartbeats 400000 in
theorem rmdraw_any (m : Nat) (s : Int) (w : World) (h : Mix w m s) :
    Calls Try.prog 33 #[.pointer (some ⟨m, 0, none⟩)] w fun e w' => e = .returned (.tuple #[.agg #[.int .u64 (wordOf (stp s)), .int .u64 (wordOf (stp (stp s)))], .int .i64 0]) ∧ Mix w' m (stp (stp s)) ∧ Upd (· = m) w w' := by
  have r1 := stp_range s
  have r2 := stp_range (stp s)
  have n0 : m ≠ w.heap.size := by have := h.lt; omega
  have ha : Mix (w.alloc (.cells #[.int .u64 0, .int .u64 0] 58)) m s := h.upd (S := fun _ => False) ((Upd.refl _ w).alloc _) id
  have hw := ha.write (stp s) r1.1 r1.2
  go_enter Try.func33, Try.ntmps33
  go_wp2_with fail
  refine (rword_any m s _ ha).mono ?_
  rintro e w1 ⟨rfl, hw1⟩
  subst hw1
  go_wp2_with fail
  refine (rword_any m (stp s) _ hw).mono ?_
  rintro e w2 ⟨rfl, hw2⟩
  have u2 : Upd (· = m) w w2 := hw2 ▸ (((Upd.refl (· = m) w).alloc _).setCell (.inl rfl) _).setCell (.inl rfl) _
  have m2 : Mix w2 m (stp (stp s)) := hw2 ▸ hw.write _ r2.1 r2.2
  have u3 : Upd (· = m) (w.alloc (.cells #[.int .u64 0, .int .u64 0] 58)) w2 := hw2 ▸ ((Upd.refl (· = m) _).setCell (.inl rfl) _).setCell (.inl rfl) _
  have d2 : w2.cell? ⟨w.heap.size, 0, none⟩ = some (.int .u64 0) := (u3.cell (p := ⟨w.heap.size, 0, none⟩) (by simp) n0.symm).trans (by simp)
  have d3 : w2.cell? ⟨w.heap.size, 1, none⟩ = some (.int .u64 0) := (u3.cell (p := ⟨w.heap.size, 1, none⟩) (by simp) n0.symm).trans (by simp)
  have f2 : w2.frozen? ⟨w.heap.size, 0, none⟩ = false := (u3.frozen (p := ⟨w.heap.size, 0, none⟩) (by simp) n0.symm).trans (by simp)
  have f3 : w2.frozen? ⟨w.heap.size, 1, none⟩ = false := (u3.frozen (p := ⟨w.heap.size, 1, none⟩) (by simp) n0.symm).trans (by simp)
  clear hw2 ha hw
  go_wp2
  refine bodyPost_ret (v := .tuple #[.agg #[.int .u64 (wordOf (stp s)), .int .u64 (wordOf (stp (stp s)))], .int .i64 0]) (by simp [results, Try.results33, go_sem, d2, d3]) rfl ⟨rfl, ?_, ?_⟩
  · exact (m2.upd ((Upd.refl (· = w.heap.size) w2).setCell (.inl rfl) _) n0).upd ((Upd.refl (· = w.heap.size) _).setCell (.inl rfl) _) n0
  · exact (u2.setCell (.inr (Nat.le_refl _)) _).setCell (.inr (Nat.le_refl _)) _

end Go.Proofs.Ytilngncjbikkgaa
