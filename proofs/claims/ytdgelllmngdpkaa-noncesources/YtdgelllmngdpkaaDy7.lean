import Derived.Test.YtdgelllmngdpkaaDx
import Derived.Test.YtdgelllmngdpkaaEq
namespace Go.Proofs.Ytdgelllmngdpkaa
open Go.RowKit
set_option linter.unusedVariables false
set_option linter.unusedSimpArgs false

set_option maxRecDepth 100000 in
set_option maxHeartbeats 2000000 in
theorem does7t (b t c p q m s d x y z B : Nat) (L : List (Int × Int)) (al : Option Addr) (cl : Nat) (R rp : Int) (np : Nat) (rq : Int) (nq : Nat) (S : Int) (k : Nat) (vx vy : Value) (ax : Option Addr) (cs : Nat) (N : Int) (hN : 0 ≤ N ∧ N ≤ 18446744073709551615) (w : World) (h : SS w b t c p q m s d x y z B L al cl R rp np rq nq S k vx vy ax cs) :
    Calls Try.prog 10 #[.pointer (some ⟨t, 0, none⟩), .agg #[.int .i64 7, .bool true, .int .u64 N]] w fun e w' => e = .returned (.bool true) ∧ Left w b t c p q m s d x y z B L al cl w' := by
  obtain ⟨o1, o2, o3, o4, o5, o6, o7, o8, o9, o10, o11⟩ := h.o
  have hBw := h.hB
  have ht := h.lt
  have HS := hide h
  obtain ⟨W, hW⟩ : ∃ W, ((w.alloc (.cells #[.int .i64 7, .bool true, .int .u64 N] 53)).alloc (.cells #[.int .u64 0, .int .u64 0] 44)).alloc (.cells #[.int .u64 0, .int .u64 0] 44) = W := ⟨_, rfl⟩
  have bW : Below w.heap.size w W := by rw [← hW]; exact (((Below.refl _ w).alloc (Nat.le_refl _) _).alloc (by simp) _).alloc (by simp; omega) _
  have zW : W.heap.size = w.heap.size + 3 := by rw [← hW]; simp
  have xx : ∀ i u, (w.alloc (.cells #[.int .i64 7, .bool true, .int .u64 N] 53)).cell? ⟨w.heap.size, i, none⟩ = some u → W.cell? ⟨w.heap.size, i, none⟩ = some u := fun i u hu => by
    rw [← hW]
    exact (World.cell?_alloc_past _ _ _ (by simp; omega)).trans ((World.cell?_alloc_past _ _ _ (by simp)).trans hu)
  have x0 := xx 0 (.int .i64 7) (by simp)
  have x1 := xx 1 (.bool true) (by simp)
  have ya : W.cell? ⟨w.heap.size + 1, 0, none⟩ = some (.int .u64 0) ∧ W.cell? ⟨w.heap.size + 1, 1, none⟩ = some (.int .u64 0) ∧ W.frozen? ⟨w.heap.size + 1, 0, none⟩ = false ∧ W.frozen? ⟨w.heap.size + 1, 1, none⟩ = false ∧ W.cell? ⟨w.heap.size + 1 + 1, 0, none⟩ = some (.int .u64 0) ∧ W.cell? ⟨w.heap.size + 1 + 1, 1, none⟩ = some (.int .u64 0) ∧ W.frozen? ⟨w.heap.size + 1 + 1, 0, none⟩ = false ∧ W.frozen? ⟨w.heap.size + 1 + 1, 1, none⟩ = false := by
    have := box2 (w.alloc (.cells #[.int .i64 7, .bool true, .int .u64 N] 53)) 44
    rw [World.size_alloc, hW] at this
    exact this
  have SW := hide (h.bel bW)
  have BW := hide bW
  have YA := hide ya
  have q0 := fun (h l : Int) (w : World) => eql_draw h l h l w
  simp only [beq_self_eq_true, Bool.and_self] at q0
  have t4 := SW.out.t4
  have t9 := SW.out.t9
  have t10 := SW.out.t10
  have hL1 := h.l.cap
  have hL2 := h.l.max
  unfold maxLen at hL2
  have hkl := h.kl
  clear h bW xx ya
  go_enter Try.func10, Try.ntmps10
  go_wp2_with fail
  have HH := fun j => hide (sleft_any s (L.drop k) ax cs (W.drewN j) (SW.out.bel (belND (Below.refl _ _) j)).A)
  have hln : ((L.drop k).length : Int) = (L.length : Int) - (k : Int) := by rw [List.length_drop]; omega
  simp only [hln] at HH
  clear hW x0 x1 YA q0
  go_quiet ((go_at_call 24; exact Calls.quiet_of_same (HH _).out))
  go_wp2
  go_ret
  refine ⟨rfl, ?_⟩
  have bn : Below W.heap.size W (W.drewN nq) := belND (Below.refl _ _) nq
  exact ⟨_, _, _, _, _, _, _, _, _, _, _, SW.out.bel bn, (BW.out.mono (by omega)).trans (bn.mono (by omega))⟩
set_option maxRecDepth 100000 in
set_option maxHeartbeats 2000000 in
theorem does7f (b t c p q m s d x y z B : Nat) (L : List (Int × Int)) (al : Option Addr) (cl : Nat) (R rp : Int) (np : Nat) (rq : Int) (nq : Nat) (S : Int) (k : Nat) (vx vy : Value) (ax : Option Addr) (cs : Nat) (N : Int) (hN : 0 ≤ N ∧ N ≤ 18446744073709551615) (w : World) (h : SS w b t c p q m s d x y z B L al cl R rp np rq nq S k vx vy ax cs) :
    Calls Try.prog 10 #[.pointer (some ⟨t, 0, none⟩), .agg #[.int .i64 7, .bool false, .int .u64 N]] w fun e w' => e = .returned (.bool true) ∧ Left w b t c p q m s d x y z B L al cl w' := by
  obtain ⟨o1, o2, o3, o4, o5, o6, o7, o8, o9, o10, o11⟩ := h.o
  have hBw := h.hB
  have ht := h.lt
  have HS := hide h
  obtain ⟨W, hW⟩ : ∃ W, ((w.alloc (.cells #[.int .i64 7, .bool false, .int .u64 N] 53)).alloc (.cells #[.int .u64 0, .int .u64 0] 44)).alloc (.cells #[.int .u64 0, .int .u64 0] 44) = W := ⟨_, rfl⟩
  have bW : Below w.heap.size w W := by rw [← hW]; exact (((Below.refl _ w).alloc (Nat.le_refl _) _).alloc (by simp) _).alloc (by simp; omega) _
  have zW : W.heap.size = w.heap.size + 3 := by rw [← hW]; simp
  have xx : ∀ i u, (w.alloc (.cells #[.int .i64 7, .bool false, .int .u64 N] 53)).cell? ⟨w.heap.size, i, none⟩ = some u → W.cell? ⟨w.heap.size, i, none⟩ = some u := fun i u hu => by
    rw [← hW]
    exact (World.cell?_alloc_past _ _ _ (by simp; omega)).trans ((World.cell?_alloc_past _ _ _ (by simp)).trans hu)
  have x0 := xx 0 (.int .i64 7) (by simp)
  have x1 := xx 1 (.bool false) (by simp)
  have ya : W.cell? ⟨w.heap.size + 1, 0, none⟩ = some (.int .u64 0) ∧ W.cell? ⟨w.heap.size + 1, 1, none⟩ = some (.int .u64 0) ∧ W.frozen? ⟨w.heap.size + 1, 0, none⟩ = false ∧ W.frozen? ⟨w.heap.size + 1, 1, none⟩ = false ∧ W.cell? ⟨w.heap.size + 1 + 1, 0, none⟩ = some (.int .u64 0) ∧ W.cell? ⟨w.heap.size + 1 + 1, 1, none⟩ = some (.int .u64 0) ∧ W.frozen? ⟨w.heap.size + 1 + 1, 0, none⟩ = false ∧ W.frozen? ⟨w.heap.size + 1 + 1, 1, none⟩ = false := by
    have := box2 (w.alloc (.cells #[.int .i64 7, .bool false, .int .u64 N] 53)) 44
    rw [World.size_alloc, hW] at this
    exact this
  have SW := hide (h.bel bW)
  have BW := hide bW
  have YA := hide ya
  have q0 := fun (h l : Int) (w : World) => eql_draw h l h l w
  simp only [beq_self_eq_true, Bool.and_self] at q0
  have t4 := SW.out.t4
  have t9 := SW.out.t9
  have t10 := SW.out.t10
  have hL1 := h.l.cap
  have hL2 := h.l.max
  unfold maxLen at hL2
  have hkl := h.kl
  clear h bW xx ya
  go_enter Try.func10, Try.ntmps10
  go_wp2_with fail
  have HH := fun j => hide (sleft_any s (L.drop k) ax cs (W.drewN j) (SW.out.bel (belND (Below.refl _ _) j)).A)
  have hln : ((L.drop k).length : Int) = (L.length : Int) - (k : Int) := by rw [List.length_drop]; omega
  simp only [hln] at HH
  clear hW x0 x1 YA q0
  go_quiet ((go_at_call 24; exact Calls.quiet_of_same (HH _).out))
  go_wp2
  go_ret
  refine ⟨rfl, ?_⟩
  have bn : Below W.heap.size W (W.drewN nq) := belND (Below.refl _ _) nq
  exact ⟨_, _, _, _, _, _, _, _, _, _, _, SW.out.bel bn, (BW.out.mono (by omega)).trans (bn.mono (by omega))⟩

end Go.Proofs.Ytdgelllmngdpkaa
