import Derived.Test.YtilngncjbikkgaaRo2
namespace Go.Proofs.Ytilngncjbikkgaa
open Go.RowKit
set_option linter.unusedVariables false

set_option maxRecDepth 100000 in
set_option maxHeartbeats 800000 in
/-- .. and when it has come to its end. -/
theorem qdraw_end (B p po c co : Nat) (K : Nat → Prop) (f : Nat → Value) (R rd : Int) (N : Nat) (v : Value) (w : World) (h : QPrs B w p po c co K f rd N v) (hc : QClk w c co R) (hr : rd = R) (hN : N = 65535) :
    Calls Try.prog 32 #[.pointer (some ⟨p, po, none⟩)] w fun e w' => e = .returned (.tuple #[.agg #[.int .u64 0, .int .u64 0], .int .i64 20]) ∧ Below w.heap.size w w' := by
  have hN0 : 0 < N := by omega
  have hNb : (N : Int) ≤ 65535 := by omega
  have HN5 := hide hN
  clear hN
  obtain ⟨va, vc, rfl, hvc, hvm, hvn, hvx⟩ := h.own.form
  rw [dl_length] at hvc
  have U0 : ∀ o, Upd (fun _ => False) w (w.alloc o) := fun o => (Upd.refl _ w).alloc o
  have x0 := fun o => (h.upd (U0 o) id (fun _ _ => id)).c0
  have x1 := fun o => (h.upd (U0 o) id (fun _ _ => id)).c1
  have k0 := fun o => (hc.upd (U0 o) id).c0
  rw [dl_length] at x1
  cases va with
  | none => have := (hvn rfl).1; have h2 := dl_length rd N; rw [this] at h2; simp at h2; omega
  | some z =>
    obtain ⟨g, rfl, hgB, hgl⟩ := hvx z rfl
    have ho := h.own
    rw [dl_length] at ho
    have HC := hide (fun i hi => ho.cell i _ (dl_get rd N i hi))
    have q0 : IntKind.i64.wrap ((N : Int) - 1) = (N : Int) - 1 := by rw [IntKind.wrap_i64]; omega
    go_enter Try.func32, Try.ntmps32
    go_wp2
    go_loopw [4, 5] (fun kk i wr => ∃ j m : Nat, kk = .int .i64 (j : Int) ∧ ((∃ n' : Nat, n' + j + 1 = N ∧ i = .int .i64 (n' : Int)) ∨ (j = N ∧ i = .int .i64 (-1))) ∧ wr = (w.alloc (.cells #[.int .u64 0, .int .u64 0] 58)).drewN m) (fun kk _ _ => N - (intOf kk).toNat)
    case atStart => exact ⟨0, 0, rfl, .inl ⟨N - 1, by omega, int_eq (by omega)⟩, rfl⟩
    case round =>
      obtain ⟨j, m, rfl, hi, rfl⟩ := hrel
      rcases hi with ⟨n', hn', rfl⟩ | ⟨rfl, rfl⟩
      · obtain ⟨e0, e1⟩ := HC.out n' (by omega)
        have e2 : ∀ o, (w.alloc o).cell? ⟨g, n' * 2, none⟩ = some (.int .u64 rd) := fun o => (World.cell?_alloc_past _ _ _ hgl).trans e0
        subst hr
        have l1 : n' < N := by omega
        have l2 : (n' : Int) < (N : Int) := by omega
        have l3 : j < N := by omega
        have HNN := hide hn'
        clear hn' HC ho h
        go_wp2
        go_quiet (fail)
        go_wp2
        by_cases hz : n' = 0
        · subst hz
          go_round
          case rel => exact ⟨j + 1, _, by go_num, .inr ⟨by have := HNN.out; omega, by go_num⟩, rfl⟩
          case measure => simp [intOf]; omega
        · have hw : IntKind.i64.wrap ((n' : Int) - 1) = ((n' - 1 : Nat) : Int) := by rw [IntKind.wrap_i64]; omega
          go_round
          case rel => exact ⟨j + 1, _, by go_num, .inl ⟨n' - 1, by have := HNN.out; omega, by first | go_num | exact int_eq (by omega)⟩, rfl⟩
          case measure => simp [intOf]; omega
      · have hd1 : ((j : Int) == 65535) = true := by have := HN5.out; simp; omega
        go_wp2
        try (go_quiet (fail); go_wp2)
        refine bodyPost_ret (v := .tuple #[.agg #[.int .u64 0, .int .u64 0], .int .i64 20]) (by simp [results, Try.results32, go_sem]) rfl ⟨rfl, ?_⟩
        exact ((below_drewN ((Below.refl _ _).alloc (Nat.le_refl _) _) _).setCell (p := ⟨w.heap.size, 0, none⟩) (Nat.le_refl _) _).setCell (p := ⟨w.heap.size, 1, none⟩) (Nat.le_refl _) _

end Go.Proofs.Ytilngncjbikkgaa
