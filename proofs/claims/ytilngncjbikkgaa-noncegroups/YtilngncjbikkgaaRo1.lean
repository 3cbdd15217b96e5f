import Derived.Test.YtilngncjbikkgaaGx
import Derived.Test.YtilngncjbikkgaaRp
namespace Go.Proofs.Ytilngncjbikkgaa
open Go.RowKit
set_option linter.unusedVariables false

/-- The document's clock in a block's cell. -/
structure QClk (w : World) (c co : Nat) (R : Int) : Prop where
  lt : c < w.heap.size
  c0 : w.cell? ⟨c, co, none⟩ = some (.int .u64 R)
  f0 : w.frozen? ⟨c, co, none⟩ = false
  lo : 0 ≤ R
  hi : R ≤ 18446744073709551615
theorem QClk.upd {S : Nat → Prop} {w w' : World} {c co : Nat} {R : Int} (h : QClk w c co R) (u : Upd S w w') (hs : ¬ S c) : QClk w' c co R :=
  ⟨Nat.lt_of_lt_of_le h.lt u.size, (u.cell h.lt hs).trans h.c0, (u.frozen h.lt hs).trans h.f0, h.lo, h.hi⟩
theorem qset_any (c co : Nat) (R x : Int) (w : World) (h : QClk w c co R) (h1 : x ≤ 18446744073709551615) :
    Calls Try.prog 27 #[.pointer (some ⟨c, co, none⟩), .int .u64 x] w fun e w' => e = .returned (.int .i64 (sE R x)) ∧ w' = if x < R then w else w.setCell ⟨c, co, none⟩ (.int .u64 x) := by
  obtain ⟨clt, k0, kf, klo, khi⟩ := h
  unfold sE
  by_cases hk : x < R
  · rw [if_pos hk, if_pos hk]
    have hd : decide (x < R) = true := by simp; omega
    go_enter Try.func27, Try.ntmps27
    go_wp2
    go_ret
    exact ⟨rfl, rfl⟩
  · rw [if_neg hk, if_neg hk]
    have hd : decide (x < R) = false := by simp; omega
    go_enter Try.func27, Try.ntmps27
    go_wp2
    go_ret
    exact ⟨rfl, rfl⟩
theorem qpass_any (c co : Nat) (R x : Int) (w : World) (h : QClk w c co R) (h0 : 0 ≤ x) :
    Calls Try.prog 28 #[.pointer (some ⟨c, co, none⟩), .int .u64 x] w fun e w' => e = .returned (.int .i64 (pE R x)) ∧ w' = if R + x ≤ 18446744073709551615 then w.setCell ⟨c, co, none⟩ (.int .u64 (R + x)) else w := by
  obtain ⟨clt, k0, kf, klo, khi⟩ := h
  unfold pE
  by_cases hk : R + x ≤ 18446744073709551615
  · rw [if_pos hk, if_pos hk]
    have hd : decide (18446744073709551615 - R < x) = false := by simp; omega
    have hm : (R + x) % 18446744073709551616 = R + x := by omega
    go_enter Try.func28, Try.ntmps28
    go_wp2
    try (go_quiet (fail); go_wp2)
    go_ret
    exact ⟨rfl, rfl⟩
  · rw [if_neg hk, if_neg hk]
    have hd : decide (18446744073709551615 - R < x) = true := by simp; omega
    go_enter Try.func28, Try.ntmps28
    go_wp2
    go_ret
    exact ⟨rfl, rfl⟩
/-- The document's Mixed in a block's cell. -/
structure QMix (w : World) (m o : Nat) (K : Nat → Prop) (f : Nat → Value) (s : Int) : Prop where
  lt : m < w.heap.size
  c0 : w.cell? ⟨m, o, none⟩ = some (.int .u64 s)
  f0 : w.frozen? ⟨m, o, none⟩ = false
  lo : 0 ≤ s
  hi : s ≤ 18446744073709551615
  kn : ¬ K o
  kp : ∀ i, K i → w.cell? ⟨m, i, none⟩ = some (f i) ∧ w.frozen? ⟨m, i, none⟩ = false
theorem QMix.upd {S : Nat → Prop} {w w' : World} {m o : Nat} {K : Nat → Prop} {f : Nat → Value} {s : Int} (h : QMix w m o K f s) (u : Upd S w w') (hs : ¬ S m) : QMix w' m o K f s :=
  ⟨Nat.lt_of_lt_of_le h.lt u.size, (u.cell h.lt hs).trans h.c0, (u.frozen h.lt hs).trans h.f0, h.lo, h.hi, h.kn, fun i hi => ⟨(u.cell (p := ⟨m, i, none⟩) h.lt hs).trans (h.kp i hi).1, (u.frozen (p := ⟨m, i, none⟩) h.lt hs).trans (h.kp i hi).2⟩⟩
theorem QMix.write {w : World} {m o : Nat} {K : Nat → Prop} {f : Nat → Value} {s : Int} (h : QMix w m o K f s) (s' : Int) (h0 : 0 ≤ s') (h1 : s' ≤ 18446744073709551615) : QMix (w.setCell ⟨m, o, none⟩ (.int .u64 s')) m o K f s' :=
  ⟨by simpa [World.setCell] using h.lt, sc_eq h.c0, sc_fr h.f0, h0, h1, h.kn, fun i hi => ⟨sc_ne (h.kp i hi).1 (fun e => h.kn (e ▸ hi)), sc_fr (h.kp i hi).2⟩⟩
theorem qword_any (m o : Nat) (K : Nat → Prop) (f : Nat → Value) (s : Int) (w : World) (h : QMix w m o K f s) :
    Calls Try.prog 35 #[.pointer (some ⟨m, o, none⟩)] w fun e w' => e = .returned (.int .u64 (wordOf (stp s))) ∧ w' = w.setCell ⟨m, o, none⟩ (.int .u64 (stp s)) := by
  obtain ⟨hlt, p0, pf, m0, m1, _, _⟩ := h
  go_enter Try.func35, Try.ntmps35
  go_wp2
  go_ret
  exact ⟨rfl, rfl⟩
set_option maxHeartbeats 400000 in
theorem qmdraw_any (m o : Nat) (K : Nat → Prop) (f : Nat → Value) (s : Int) (w : World) (h : QMix w m o K f s) :
    Calls Try.prog 33 #[.pointer (some ⟨m, o, none⟩)] w fun e w' => e = .returned (.tuple #[.agg #[.int .u64 (wordOf (stp s)), .int .u64 (wordOf (stp (stp s)))], .int .i64 0]) ∧ QMix w' m o K f (stp (stp s)) ∧ Upd (· = m) w w' := by
  have r1 := stp_range s
  have r2 := stp_range (stp s)
  have n0 : m ≠ w.heap.size := by have := h.lt; omega
  have ha : QMix (w.alloc (.cells #[.int .u64 0, .int .u64 0] 58)) m o K f s := h.upd (S := fun _ => False) ((Upd.refl _ w).alloc _) id
  have hw := ha.write (stp s) r1.1 r1.2
  go_enter Try.func33, Try.ntmps33
  go_wp2_with fail
  refine (qword_any m o K f s _ ha).mono ?_
  rintro e w1 ⟨rfl, hw1⟩
  subst hw1
  go_wp2_with fail
  refine (qword_any m o K f (stp s) _ hw).mono ?_
  rintro e w2 ⟨rfl, hw2⟩
  have u2 : Upd (· = m) w w2 := hw2 ▸ (((Upd.refl (· = m) w).alloc _).setCell (.inl rfl) _).setCell (.inl rfl) _
  have m2 : QMix w2 m o K f (stp (stp s)) := hw2 ▸ hw.write _ r2.1 r2.2
  have u3 : Upd (· = m) (w.alloc (.cells #[.int .u64 0, .int .u64 0] 58)) w2 := hw2 ▸ ((Upd.refl (· = m) _).setCell (.inl rfl) _).setCell (.inl rfl) _
  have d2 : w2.cell? ⟨w.heap.size, 0, none⟩ = some (.int .u64 0) := (u3.cell (p := ⟨w.heap.size, 0, none⟩) (by simp) n0.symm).trans (by simp)
  have d3 : w2.cell? ⟨w.heap.size, 1, none⟩ = some (.int .u64 0) := (u3.cell (p := ⟨w.heap.size, 1, none⟩) (by simp) n0.symm).trans (by simp)
  have f2 : w2.frozen? ⟨w.heap.size, 0, none⟩ = false := (u3.frozen (p := ⟨w.heap.size, 0, none⟩) (by simp) n0.symm).trans (by simp)
  have f3 : w2.frozen? ⟨w.heap.size, 1, none⟩ = false := (u3.frozen (p := ⟨w.heap.size, 1, none⟩) (by simp) n0.symm).trans (by simp)
  clear hw2 ha hw
  go_wp2
  refine bodyPost_ret (v := .tuple #[.agg #[.int .u64 (wordOf (stp s)), .int .u64 (wordOf (stp (stp s)))], .int .i64 0]) (by simp [results, Try.results33, go_sem, d2, d3]) rfl ⟨rfl, ?_, ?_⟩
  · exact (m2.upd ((Upd.refl (· = w.heap.size) w2).setCell (.inl rfl) _) n0).upd ((Upd.refl (· = w.heap.size) _).setCell (.inl rfl) _) n0
  · exact (u2.setCell (.inr (Nat.le_refl _)) _).setCell (.inr (Nat.le_refl _)) _

end Go.Proofs.Ytilngncjbikkgaa
