import Derived.Test.YtilngncjbikkgaaGkc
namespace Go.Proofs.Ytilngncjbikkgaa
open Go.RowKit
set_option linter.unusedVariables false
set_option linter.unusedSimpArgs false

set_option maxRecDepth 100000 in
set_option maxHeartbeats 8000000 in
theorem mixedgroup_any (n : Nat) (sd : Int) (w : World) (hn : n ≤ 7) (h0 : 0 ≤ sd) (h1 : sd ≤ 18446744073709551615) :
    Calls Try.prog 9 #[.int .i64 (n : Int), .int .u64 sd] w fun e w' => ∃ m vs, e = .returned (.pointer (some ⟨w.heap.size, 0, none⟩)) ∧ GKm w' (w.heap.size + 1) w.heap.size n m vs sd ∧ Below w.heap.size w w' := by
  go_enter Try.func9, Try.ntmps9
  go_wp2
  go_loopw [10] (fun v wr => ∃ (i : Nat) (m : Nat → Nat) (vs : Value), v = .int .i64 (i : Int) ∧ i ≤ n ∧ Hid (GKm wr (w.heap.size + 1) w.heap.size i m vs sd) ∧ Hid (Below w.heap.size w wr)) (fun v _ => n - (intOf v).toNat)
  case atStart =>
    refine ⟨0, fun _ => 0, .slice none 0 0, rfl, Nat.zero_le _, ⟨by simp, by simp, by simp, by simp, by simp, by simp, fun j hj => ?_, World.ownsRow_nil _ _ _ _, fun j hj => by omega, fun j k hj => by omega, fun j hj => by omega, fun j k hj => by omega, by omega, by simp⟩, (Below.refl _ _).alloc (Nat.le_refl _) _⟩
    match j, hj with
    | 0, _ | 1, _ | 2, _ | 3, _ | 4, _ | 5, _ | 6, _ => simp
  case round =>
    obtain ⟨i, m, vs, rfl, hi, G, bl⟩ := hrel
    by_cases hin : i < n
    · have hlg := G.out.lt
      have x0 := G.out.c0
      have y0 := G.out.f0
      have hw9 : IntKind.u64.wrap (sd + (i : Int)) = sd0 sd i := by rw [IntKind.wrap_u64]; rfl
      have hcv : IntKind.u64.wrap (i : Int) = (i : Int) := by rw [IntKind.wrap_u64]; omega
      obtain ⟨ss, hss⟩ : ∃ ss, sd0 sd i = ss := ⟨_, rfl⟩
      have HSS := hide hss
      rw [hss] at hw9
      clear hss
      have x0' : ∀ o, (wr.alloc o).cell? ⟨w.heap.size, 0, none⟩ = some vs := fun o => (World.cell?_alloc_past _ _ _ hlg).trans x0
      have y0' : ∀ o, (wr.alloc o).frozen? ⟨w.heap.size, 0, none⟩ = false := fun o => (((Upd.refl (fun _ => False) wr).alloc o).frozen (p := ⟨w.heap.size, 0, none⟩) hlg id).trans y0
      have x0'' : ∀ o o', ((wr.alloc o).alloc o').cell? ⟨w.heap.size, 0, none⟩ = some vs := fun o o' => (World.cell?_alloc_past _ _ _ (by simp; omega)).trans (x0' o)
      have OW := hide (G.out.own.upd (S := fun _ => False) ((((Upd.refl _ wr).alloc (.cells #[.int .u64 ss] 89)).alloc (.cells #[.iface 79 (.pointer (some ⟨wr.heap.size, 0, none⟩))] 85)).drew) (fun _ _ => id))
      have HZ := hide (show (((wr.alloc (.cells #[.int .u64 ss] 89)).alloc (.cells #[.iface 79 (.pointer (some ⟨wr.heap.size, 0, none⟩))] 85)).drew).heap.size = wr.heap.size + 2 by simp)
      have hB4 := hide (show w.heap.size + 1 ≤ (((wr.alloc (.cells #[.int .u64 ss] 89)).alloc (.cells #[.iface 79 (.pointer (some ⟨wr.heap.size, 0, none⟩))] 85)).drew).heap.size by rw [HZ.out]; omega)
      have NG : Hid (∀ k, vs.ownBlock = some k → k ≠ w.heap.size) := fun k hk => by have := (World.ownsRow.lt G.out.own k hk).1; omega
      have lr := bl.out.size
      go_wp2_with fail
      go_region_law first
        | (refine step_newmixed rfl (.tmp 21) rfl ss rfl ?_)
        | (refine step_srcs rfl (.tmp 17) (.tmp 24) rfl (w.heap.size + 1) (ifs 79 m i) vs rfl ⟨wr.heap.size + 1, 0, none⟩ rfl (.iface 79 (.pointer (some ⟨wr.heap.size, 0, none⟩))) rfl (by simp) OW.out hB4.out (by rw [ifs_len]; omega) ?_; intro sg cap w5 q1 q2 q3 q4; have u5 := mixed_upd q2; have j0 := (u5.cell (p := ⟨w.heap.size, 0, none⟩) (by simp; omega) (fun h => NG.out _ h rfl)).trans (x0' _); have j1 := (u5.frozen (p := ⟨w.heap.size, 0, none⟩) (by simp; omega) (fun h => NG.out _ h rfl)).trans (y0' _))
      all_goals
        have hss := HSS.out
        have GN := hide (gkm_next G.out ss hss sg cap q1 u5 (q3.imp id (fun e => by rw [e, HZ.out]; omega)))
        have BN : Hid (Below w.heap.size w (w5.setCell ⟨w.heap.size, 0, none⟩ (.slice (some ⟨sg, 0, none⟩) ((ifs 79 m i).length + 1) cap))) := ((bl.out.alloc lr _).trans (u5.below (by simp; omega) (fun k hk => by have := (World.ownsRow.lt G.out.own k hk).1; omega))).setCell (p := ⟨w.heap.size, 0, none⟩) (Nat.le_refl _) _
        clear q1 q2 q3 u5 j0 j1 x0 y0 x0' x0'' y0' G OW hw9 hcv hss
        go_wp2
        go_round
        case rel => exact ⟨i + 1, _, _, by go_num, by omega, GN, BN⟩
        case measure => simp [intOf]; omega
    · obtain rfl : i = n := by omega
      go_wp2
      go_ret
      exact ⟨m, vs, rfl, G.out, bl.out⟩

end Go.Proofs.Ytilngncjbikkgaa
