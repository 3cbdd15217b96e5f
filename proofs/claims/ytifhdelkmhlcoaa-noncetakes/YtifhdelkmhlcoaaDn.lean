import Derived.Test.YtifhdelkmhlcoaaSt
namespace Go.Proofs.Ytifhdelkmhlcoaa
open Go.RowKit
set_option linter.unusedVariables false

theorem method_stream (p : Nat) (k : Nat) (w : World) : (method (k + 1) 41 (.pointer (some ⟨p, 0, none⟩)) "Draw").run Try.prog w = .ok (39, .pointer (some ⟨p, 0, none⟩)) w := by kernel_rfl

/-- A stream whose draws lie where a slice led. -/
def StrIn (w : World) (s : Nat) (D : List (Int × Int)) (a : Option Addr) : Prop := ∃ a' c', Str w s D a' c' ∧ ∀ b, (∃ z, a' = some z ∧ z.block = b) → ∃ z, a = some z ∧ z.block = b

/-- The deferred function of a frame that returns. -/
theorem catch_idle (p q : Addr) (w : World) :
    CallsD Try.prog 51 #[.pointer (some p), .pointer (some q)] .returning w fun e u' w' => e = .returned (.tuple #[]) ∧ u' = .returning ∧ w' = w := by
  refine callsD_of_wpS Try.func51 rfl fun c₀ cs hu => ?_
  apply wpS_seq
  apply wpS_region
  simp [wpOpsS, go_sem, recoverD, hu, Try.ntmps51, Exit.thenS]
  refine wpS_cond (t := false) (by simp [Act.eval, Array.replicate]) ?_
  simp only [Bool.false_eq_true, if_false]
  refine wpS_of_wp (wp_skip ?_)
  cases c₀
  simp_all [bodyPostS, results, Try.results51]

set_option maxHeartbeats 400000 in
theorem one_end (s : Nat) (a : Option Addr) (c : Nat) (w : World) (h : Str w s [] a c) :
    Calls Try.prog 43 #[.iface 41 (.pointer (some ⟨s, 0, none⟩))] w fun e w' => e = .returned (.tuple #[.agg #[.int .u64 0, .int .u64 0], .int .i64 20]) ∧ Below w.heap.size w w' := by
  have hmf : ∀ (fn : Fn) (first cap : Array Value) (w : World), (Instr.makeFunc fn first cap).run Try.prog w = .ok (.func fn first cap) w := fun _ _ _ _ => rfl
  have hm := fun k w => method_stream s k w
  have hlt := h.lt
  have u0 : Upd (fun _ => False) w ((w.alloc (.cells #[.int .u64 0, .int .u64 0] 24)).alloc (.cells #[.int .i64 0] 25)) := ((Upd.refl _ w).alloc _).alloc _
  have h2 := h.upd u0 id (fun _ _ => id)
  have n0 : ¬ s = w.heap.size := by omega
  have n1 : ¬ s = w.heap.size + 1 := by omega
  go_enter_defers Try.func43, Try.ntmps43
  go_wp2_with fail
  refine (stream_end s a c _ h2).mono ?_
  rintro e w1 ⟨rfl, b1⟩
  have u1 : Upd (fun _ => False) _ w1 := Upd.of_below b1
  have r0 : w1.cell? ⟨w.heap.size, 0, none⟩ = some (.int .u64 0) := (u1.cell (p := ⟨w.heap.size, 0, none⟩) (by simp; omega) id).trans (by simp)
  have r1 : w1.cell? ⟨w.heap.size, 1, none⟩ = some (.int .u64 0) := (u1.cell (p := ⟨w.heap.size, 1, none⟩) (by simp; omega) id).trans (by simp)
  have r2 : w1.cell? ⟨w.heap.size + 1, 0, none⟩ = some (.int .i64 0) := (u1.cell (p := ⟨w.heap.size + 1, 0, none⟩) (by simp) id).trans (by simp)
  have q0 : w1.frozen? ⟨w.heap.size, 0, none⟩ = false := (u1.frozen (p := ⟨w.heap.size, 0, none⟩) (by simp; omega) id).trans (by simp)
  have q1 : w1.frozen? ⟨w.heap.size, 1, none⟩ = false := (u1.frozen (p := ⟨w.heap.size, 1, none⟩) (by simp; omega) id).trans (by simp)
  have q2 : w1.frozen? ⟨w.heap.size + 1, 0, none⟩ = false := (u1.frozen (p := ⟨w.heap.size + 1, 0, none⟩) (by simp) id).trans (by simp)
  have l1 := u1.size
  simp at l1
  go_wp2
  refine leaves_cons (f := 51) (args := #[.pointer (some ⟨w.heap.size, 0, none⟩), .pointer (some ⟨w.heap.size + 1, 0, none⟩)]) (by simp) (by simp [go_sem]) ?_
  refine (catch_idle _ _ _).mono ?_
  rintro e u' w'' ⟨rfl, rfl, rfl⟩
  have X : Upd (fun _ => False) w (((w1.setCell ⟨w.heap.size, 0, none⟩ (.int .u64 0)).setCell ⟨w.heap.size, 1, none⟩ (.int .u64 0)).setCell ⟨w.heap.size + 1, 0, none⟩ (.int .i64 20)) := (((((u0.mono (fun _ _ h => h.elim)).trans u1).setCell (.inr (Nat.le_refl _)) _).setCell (.inr (Nat.le_refl _)) _).setCell (.inr (by simp)) _)

  simp [Leaves, settle, results, Try.results43, go_sem, r0, r1, r2]
  exact X.below (Nat.le_refl _) (fun _ h => h.elim)

set_option maxHeartbeats 400000 in
theorem one_next (s : Nat) (x y : Int) (D : List (Int × Int)) (a : Option Addr) (c : Nat) (w : World) (h : Str w s ((x, y) :: D) a c) :
    Calls Try.prog 43 #[.iface 41 (.pointer (some ⟨s, 0, none⟩))] w fun e w' => e = .returned (.tuple #[.agg #[.int .u64 x, .int .u64 y], .int .i64 0]) ∧ StrIn w' s D a ∧ Upd (· = s) w w' := by
  have hmf : ∀ (fn : Fn) (first cap : Array Value) (w : World), (Instr.makeFunc fn first cap).run Try.prog w = .ok (.func fn first cap) w := fun _ _ _ _ => rfl
  have hm := fun k w => method_stream s k w
  have hlt := h.lt
  have u0 : Upd (fun _ => False) w ((w.alloc (.cells #[.int .u64 0, .int .u64 0] 24)).alloc (.cells #[.int .i64 0] 25)) := ((Upd.refl _ w).alloc _).alloc _
  have h2 := h.upd u0 id (fun _ _ => id)
  have n0 : ¬ s = w.heap.size := by omega
  have n1 : ¬ s = w.heap.size + 1 := by omega
  go_enter_defers Try.func43, Try.ntmps43
  go_wp2_with fail
  refine (stream_next s x y D a c _ h2).mono ?_
  rintro e w1 ⟨rfl, ⟨a', c', T1, hb⟩, u1⟩
  have r0 : w1.cell? ⟨w.heap.size, 0, none⟩ = some (.int .u64 0) := (u1.cell (p := ⟨w.heap.size, 0, none⟩) (by simp; omega) (by show ¬ w.heap.size = s; omega)).trans (by simp)
  have r1 : w1.cell? ⟨w.heap.size, 1, none⟩ = some (.int .u64 0) := (u1.cell (p := ⟨w.heap.size, 1, none⟩) (by simp; omega) (by show ¬ w.heap.size = s; omega)).trans (by simp)
  have r2 : w1.cell? ⟨w.heap.size + 1, 0, none⟩ = some (.int .i64 0) := (u1.cell (p := ⟨w.heap.size + 1, 0, none⟩) (by simp) (by show ¬ w.heap.size + 1 = s; omega)).trans (by simp)
  have q0 : w1.frozen? ⟨w.heap.size, 0, none⟩ = false := (u1.frozen (p := ⟨w.heap.size, 0, none⟩) (by simp; omega) (by show ¬ w.heap.size = s; omega)).trans (by simp)
  have q1 : w1.frozen? ⟨w.heap.size, 1, none⟩ = false := (u1.frozen (p := ⟨w.heap.size, 1, none⟩) (by simp; omega) (by show ¬ w.heap.size = s; omega)).trans (by simp)
  have q2 : w1.frozen? ⟨w.heap.size + 1, 0, none⟩ = false := (u1.frozen (p := ⟨w.heap.size + 1, 0, none⟩) (by simp) (by show ¬ w.heap.size + 1 = s; omega)).trans (by simp)
  have l1 := u1.size
  simp at l1
  go_wp2
  refine leaves_cons (f := 51) (args := #[.pointer (some ⟨w.heap.size, 0, none⟩), .pointer (some ⟨w.heap.size + 1, 0, none⟩)]) (by simp) (by simp [go_sem]) ?_
  refine (catch_idle _ _ _).mono ?_
  rintro e u' w'' ⟨rfl, rfl, rfl⟩
  have X : Upd (· = s) w (((w1.setCell ⟨w.heap.size, 0, none⟩ (.int .u64 x)).setCell ⟨w.heap.size, 1, none⟩ (.int .u64 y)).setCell ⟨w.heap.size + 1, 0, none⟩ (.int .i64 0)) := (((((u0.mono (fun _ _ h => h.elim)).trans u1).setCell (.inr (Nat.le_refl _)) _).setCell (.inr (Nat.le_refl _)) _).setCell (.inr (by simp)) _)

  simp [Leaves, settle, results, Try.results43, go_sem, r0, r1, r2]
  refine ⟨⟨a', c', ?_, hb⟩, X⟩
  have V : Upd (fun k => w.heap.size ≤ k) w1 (((w1.setCell ⟨w.heap.size, 0, none⟩ (.int .u64 x)).setCell ⟨w.heap.size, 1, none⟩ (.int .u64 y)).setCell ⟨w.heap.size + 1, 0, none⟩ (.int .i64 0)) := by
    refine Upd.setCell (Upd.setCell (Upd.setCell (Upd.refl _ w1) (p := ⟨w.heap.size, 0, none⟩) (.inl ?_) _) (p := ⟨w.heap.size, 1, none⟩) (.inl ?_) _) (p := ⟨w.heap.size + 1, 0, none⟩) (.inl ?_) _
    · exact Nat.le_refl _
    · exact Nat.le_refl _
    · exact Nat.le_succ _
  refine T1.upd V (by omega) ?_
  intro z hz hle
  obtain ⟨z', hz', hb'⟩ := hb z.block ⟨z, hz, rfl⟩
  have hq := h.blk z' hz'
  omega

end Go.Proofs.Ytifhdelkmhlcoaa
