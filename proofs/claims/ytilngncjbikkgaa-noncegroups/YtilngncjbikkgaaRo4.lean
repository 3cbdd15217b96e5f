import Derived.Test.YtilngncjbikkgaaRo3
namespace Go.Proofs.Ytilngncjbikkgaa
open Go.RowKit
set_option linter.unusedVariables false

set_option maxRecDepth 100000 in
set_option maxHeartbeats 800000 in
/-- The document's Pairs, at a reading that is new to it. -/
theorem qdraw_zero (B p po c co : Nat) (K : Nat → Prop) (f : Nat → Value) (R rd : Int) (N : Nat) (v : Value) (w : World) (h : QPrs B w p po c co K f rd N v) (hc : QClk w c co R) (hz : N = 0 ∨ rd ≠ R) (hB : B ≤ w.heap.size) :
    Calls Try.prog 32 #[.pointer (some ⟨p, po, none⟩)] w fun e w' => e = .returned (.tuple #[.agg #[.int .u64 R, .int .u64 1], .int .i64 0]) ∧ ∃ v', QPrs B w' p po c co K f R 1 v' ∧ (∃ k, v'.ownBlock = some k ∧ w.heap.size ≤ k) ∧ Upd (· = p) w w' := by
  obtain ⟨va, vc, rfl, hvc, hvm, hvn, hvx⟩ := h.own.form
  rw [dl_length] at hvc
  have hN5 := h.m1
  have U0 : ∀ o, Upd (fun _ => False) w (w.alloc o) := fun o => (Upd.refl _ w).alloc o
  have x0 := fun o => (h.upd (U0 o) id (fun _ _ => id)).c0
  have x1 := fun o => (h.upd (U0 o) id (fun _ _ => id)).c1
  have xf := fun o => (h.upd (U0 o) id (fun _ _ => id)).f1
  have k0 := fun o => (hc.upd (U0 o) id).c0
  rw [dl_length] at x1
  have UW : ∀ m o', Upd (fun _ => False) w (((w.alloc (.cells #[.int .u64 0, .int .u64 0] 58)).drewN m).alloc o') := fun m o' => ((((Upd.refl _ w).alloc _).drewN m).alloc o')
  have y1 := fun m o' => (h.upd (UW m o') id (fun _ _ => id)).c1
  have yf := fun m o' => (h.upd (UW m o') id (fun _ _ => id)).f1
  rw [dl_length] at y1
  by_cases hN : N = 0
  · subst hN
    go_enter Try.func32, Try.ntmps32
    go_wp2
    go_loopw [4, 5] (fun kk i wr => ∃ m : Nat, kk = .int .i64 0 ∧ i = .int .i64 (-1) ∧ wr = (w.alloc (.cells #[.int .u64 0, .int .u64 0] 58)).drewN m) (fun _ _ _ => 0)
    case atStart => exact ⟨0, rfl, rfl, rfl⟩
    case round =>
      obtain ⟨m, rfl, rfl, rfl⟩ := hrel
      go_wp2
      go_quiet (fail)
      go_wp2
      have hp := h.lt
      have hpB := h.pB
      have hpc := h.ne
      have P1 := h.upd (UW (m + nq) (.cells #[.int .u64 R, .int .u64 1] 58)) id (fun _ _ => id)
      have UV : Upd (fun _ => False) (w.alloc (.cells #[.int .u64 0, .int .u64 0] 58)) (((w.alloc (.cells #[.int .u64 0, .int .u64 0] 58)).drewN (m + nq)).alloc (.cells #[.int .u64 R, .int .u64 1] 58)) := (((Upd.refl _ _).drewN _).alloc _)
      have r1 := (Dr.new w 0 0 58).upd UV id
      have q1 := (UV.frozen (p := ⟨w.heap.size, 0, none⟩) (by simp) id).trans (show (w.alloc (.cells #[.int .u64 0, .int .u64 0] 58)).frozen? ⟨w.heap.size, 0, none⟩ = false from by simp)
      have q2 := (UV.frozen (p := ⟨w.heap.size, 1, none⟩) (by simp) id).trans (show (w.alloc (.cells #[.int .u64 0, .int .u64 0] 58)).frozen? ⟨w.heap.size, 1, none⟩ = false from by simp)
      have D1 : Dr (((w.alloc (.cells #[.int .u64 0, .int .u64 0] 58)).drewN (m + nq)).alloc (.cells #[.int .u64 R, .int .u64 1] 58)) (w.heap.size + 1) R 1 := by
        have := Dr.new ((w.alloc (.cells #[.int .u64 0, .int .u64 0] 58)).drewN (m + nq)) R 1 58
        simpa using this
      have z1 := hide <| show w.heap.size + 2 ≤ (((w.alloc (.cells #[.int .u64 0, .int .u64 0] 58)).drewN (m + nq)).alloc (.cells #[.int .u64 R, .int .u64 1] 58)).heap.size from by simp
      have u1 := UW (m + nq) (.cells #[.int .u64 R, .int .u64 1] 58)
      clear UV UW x0 x1 xf k0 U0 y1 yf hvx hvn h
      generalize (((w.alloc (.cells #[.int .u64 0, .int .u64 0] 58)).drewN (m + nq)).alloc (.cells #[.int .u64 R, .int .u64 1] 58)) = w1 at *
      have up := upd_one' w1 p (po + 1) (.slice none 0 0)
      have np0 : ¬ w.heap.size = p := by omega
      have np1 : ¬ w.heap.size + 1 = p := by omega
      have D2 := D1.upd up np1
      have r2 := r1.upd up np0
      have q3 := (up.frozen (p := ⟨w.heap.size, 0, none⟩) r1.lt np0).trans q1
      have q4 := (up.frozen (p := ⟨w.heap.size, 1, none⟩) r1.lt np0).trans q2
      have t1 : p < (w1.setCell ⟨p, po + 1, none⟩ (.slice none 0 0)).heap.size := Nat.lt_of_lt_of_le P1.lt up.size
      have a2 := P1.c0
      have a3 := P1.c1
      have a4 := P1.f1
      have t2 : (w1.setCell ⟨p, po + 1, none⟩ (.slice none 0 0)).cell? ⟨p, po, none⟩ = some (.pointer (some ⟨c, co, none⟩)) := by go_simp
      have t3 : (w1.setCell ⟨p, po + 1, none⟩ (.slice none 0 0)).cell? ⟨p, po + 1, none⟩ = some (.slice none 0 0) := by go_simp
      have t4 : (w1.setCell ⟨p, po + 1, none⟩ (.slice none 0 0)).frozen? ⟨p, po + 1, none⟩ = false := by go_simp
      have t9 := P1.kn
      have t10 : ∀ i, K i → (w1.setCell ⟨p, po + 1, none⟩ (.slice none 0 0)).cell? ⟨p, i, none⟩ = some (f i) ∧ (w1.setCell ⟨p, po + 1, none⟩ (.slice none 0 0)).frozen? ⟨p, i, none⟩ = false := fun i hi => ⟨sc_ne (P1.kp i hi).1 (fun e => t9 (e ▸ hi)), sc_fr (P1.kp i hi).2⟩
      have u2 : Upd (· = p) w (w1.setCell ⟨p, po + 1, none⟩ (.slice none 0 0)) := (u1.mono (fun _ _ h => h.elim)).trans up
      have z2 := hide <| show w.heap.size + 2 ≤ (w1.setCell ⟨p, po + 1, none⟩ (.slice none 0 0)).heap.size from Nat.le_trans z1.out up.size
      clear P1 r1 q1 q2 D1 z1 u1 up a2 a3 a4
      generalize w1.setCell ⟨p, po + 1, none⟩ (.slice none 0 0) = w2 at *
      obtain ⟨ld, d0, d1⟩ := D2
      obtain ⟨lr, e0, e1⟩ := r2
      have t3' : ∀ o, (w2.alloc o).cell? ⟨p, po + 1, none⟩ = some (.slice none 0 0) := fun o => (World.cell?_alloc_past _ _ _ t1).trans t3
      go_region_law (refine step_draw rfl (.tmp 60) (.tmp 62) rfl B [] _ rfl ⟨w2.heap.size, 0, none⟩ rfl R 1 (Duo0 w2.drew _ _ _) (Duo1 w2.drew _ _ _) (OwnD.nil _ _) (by have := z2.out; simp; omega) (by simp) ?_; intro v3 w3 o4 g4 s4; have u3 := draw_upd g4; obtain ⟨va', vc', hv3, hvc1, hvc2, _, _⟩ := o4.form; subst hv3; have k1 := (u3.cell (p := ⟨p, po + 1, none⟩) t1 (fun e => by cases e)).trans t3; have k2 := (u3.frozen (p := ⟨p, po + 1, none⟩) t1 (fun e => by cases e)).trans t4)
      all_goals
        have x0 := (u3.cell (p := ⟨w.heap.size + 1, 0, none⟩) ld (fun e => by cases e)).trans d0
        have x1 := (u3.cell (p := ⟨w.heap.size + 1, 1, none⟩) ld (fun e => by cases e)).trans d1
        have y0 := (u3.cell (p := ⟨w.heap.size, 0, none⟩) lr (fun e => by cases e)).trans e0
        have y1 := (u3.cell (p := ⟨w.heap.size, 1, none⟩) lr (fun e => by cases e)).trans e1
        have z3 := (u3.frozen (p := ⟨w.heap.size, 0, none⟩) lr (fun e => by cases e)).trans q3
        have z4 := (u3.frozen (p := ⟨w.heap.size, 1, none⟩) lr (fun e => by cases e)).trans q4
        have c2 := (u3.cell (p := ⟨p, po, none⟩) t1 (fun e => by cases e)).trans t2
        have gb' : ¬ p = w.heap.size := by omega
        go_wp2
        have o5 : OwnD B w3 (.slice va' 1 vc') (dl R 1) := o4
        have hs5 : (Value.slice va' 1 vc').ownBlock = some (w2.heap.size + 1) := by
          rcases s4 with h | h
          · have o6 := o4
            rcases o6.2 with ⟨_, h2⟩ | ⟨g, _, _, h2, _⟩
            · cases h2
            · cases h2; cases h
          · have : (Value.slice va' 1 vc').ownBlock = some (w2.drew.alloc _).heap.size := h
            rw [this]; simp
        have s3 := u3.size
        refine bodyPost_ret (v := .tuple #[.agg #[.int .u64 R, .int .u64 1], .int .i64 0]) (by simp [results, Try.results32, go_sem, y0, y1]) rfl ⟨rfl, .slice va' 1 vc', ?_, ⟨_, hs5, by have := z2.out; omega⟩, ?_⟩
        · exact QPrs.done (by omega) c2 k1 k2 o5 hpB hpc (by omega) t9 (fun i hi => ⟨(u3.cell (p := ⟨p, i, none⟩) t1 (fun e => by cases e)).trans (t10 i hi).1, (u3.frozen (p := ⟨p, i, none⟩) t1 (fun e => by cases e)).trans (t10 i hi).2⟩) gb' (fun k hk e => by rw [hs5] at hk; cases hk; have := z2.out; omega)
        · refine Upd.setCell (Upd.setCell (Upd.setCell (p := ⟨p, po + 1, none⟩) (u2.trans (u3.mono (fun k _ h => by cases h))) (.inl rfl) _) (.inr (Nat.le_refl _)) _) (.inr (Nat.le_refl _)) _
  · have hrd : rd ≠ R := by rcases hz with h | h; exact absurd h hN; exact h
    cases va with
    | none => have := (hvn rfl).1; have h2 := dl_length rd N; rw [this] at h2; simp at h2; omega
    | some z =>
      obtain ⟨g, rfl, hgB, hgl⟩ := hvx z rfl
      have ho := h.own
      rw [dl_length] at ho
      obtain ⟨n', rfl⟩ : ∃ n', N = n' + 1 := ⟨N - 1, by omega⟩
      obtain ⟨e0, e1⟩ := ho.cell n' _ (dl_get rd (n' + 1) n' (by omega))
      have e2 : ∀ o, (w.alloc o).cell? ⟨g, n' * 2, none⟩ = some (.int .u64 rd) := fun o => (World.cell?_alloc_past _ _ _ hgl).trans e0
      have hb : (rd == R) = false := by simp [hrd]
      have q0 : IntKind.i64.wrap (((n' + 1 : Nat) : Int) - 1) = (n' : Int) := by rw [IntKind.wrap_i64]; omega
      have l1 : (n' : Int) < ((n' + 1 : Nat) : Int) := by omega
      clear e0 e1 ho
      go_enter Try.func32, Try.ntmps32
      go_wp2
      go_loopw [4, 5] (fun kk i wr => ∃ m : Nat, kk = .int .i64 0 ∧ i = .int .i64 (n' : Int) ∧ wr = (w.alloc (.cells #[.int .u64 0, .int .u64 0] 58)).drewN m) (fun _ _ _ => 0)
      case atStart => exact ⟨0, rfl, int_eq (by omega), rfl⟩
      case round =>
        obtain ⟨m, rfl, rfl, rfl⟩ := hrel
        go_wp2
        go_quiet (fail)
        go_wp2
        have hp := h.lt
        have hpB := h.pB
        have hpc := h.ne
        have P1 := h.upd (UW (m + nq) (.cells #[.int .u64 R, .int .u64 1] 58)) id (fun _ _ => id)
        have UV : Upd (fun _ => False) (w.alloc (.cells #[.int .u64 0, .int .u64 0] 58)) (((w.alloc (.cells #[.int .u64 0, .int .u64 0] 58)).drewN (m + nq)).alloc (.cells #[.int .u64 R, .int .u64 1] 58)) := (((Upd.refl _ _).drewN _).alloc _)
        have r1 := (Dr.new w 0 0 58).upd UV id
        have q1 := (UV.frozen (p := ⟨w.heap.size, 0, none⟩) (by simp) id).trans (show (w.alloc (.cells #[.int .u64 0, .int .u64 0] 58)).frozen? ⟨w.heap.size, 0, none⟩ = false from by simp)
        have q2 := (UV.frozen (p := ⟨w.heap.size, 1, none⟩) (by simp) id).trans (show (w.alloc (.cells #[.int .u64 0, .int .u64 0] 58)).frozen? ⟨w.heap.size, 1, none⟩ = false from by simp)
        have D1 : Dr (((w.alloc (.cells #[.int .u64 0, .int .u64 0] 58)).drewN (m + nq)).alloc (.cells #[.int .u64 R, .int .u64 1] 58)) (w.heap.size + 1) R 1 := by
          have := Dr.new ((w.alloc (.cells #[.int .u64 0, .int .u64 0] 58)).drewN (m + nq)) R 1 58
          simpa using this
        have z1 := hide <| show w.heap.size + 2 ≤ (((w.alloc (.cells #[.int .u64 0, .int .u64 0] 58)).drewN (m + nq)).alloc (.cells #[.int .u64 R, .int .u64 1] 58)).heap.size from by simp
        have u1 := UW (m + nq) (.cells #[.int .u64 R, .int .u64 1] 58)
        clear UV UW x0 x1 xf k0 U0 y1 yf hvx hvn h
        generalize (((w.alloc (.cells #[.int .u64 0, .int .u64 0] 58)).drewN (m + nq)).alloc (.cells #[.int .u64 R, .int .u64 1] 58)) = w1 at *
        have up := upd_one' w1 p (po + 1) (.slice none 0 0)
        have np0 : ¬ w.heap.size = p := by omega
        have np1 : ¬ w.heap.size + 1 = p := by omega
        have D2 := D1.upd up np1
        have r2 := r1.upd up np0
        have q3 := (up.frozen (p := ⟨w.heap.size, 0, none⟩) r1.lt np0).trans q1
        have q4 := (up.frozen (p := ⟨w.heap.size, 1, none⟩) r1.lt np0).trans q2
        have t1 : p < (w1.setCell ⟨p, po + 1, none⟩ (.slice none 0 0)).heap.size := Nat.lt_of_lt_of_le P1.lt up.size
        have a2 := P1.c0
        have a3 := P1.c1
        have a4 := P1.f1
        have t2 : (w1.setCell ⟨p, po + 1, none⟩ (.slice none 0 0)).cell? ⟨p, po, none⟩ = some (.pointer (some ⟨c, co, none⟩)) := by go_simp
        have t3 : (w1.setCell ⟨p, po + 1, none⟩ (.slice none 0 0)).cell? ⟨p, po + 1, none⟩ = some (.slice none 0 0) := by go_simp
        have t4 : (w1.setCell ⟨p, po + 1, none⟩ (.slice none 0 0)).frozen? ⟨p, po + 1, none⟩ = false := by go_simp
        have t9 := P1.kn
        have t10 : ∀ i, K i → (w1.setCell ⟨p, po + 1, none⟩ (.slice none 0 0)).cell? ⟨p, i, none⟩ = some (f i) ∧ (w1.setCell ⟨p, po + 1, none⟩ (.slice none 0 0)).frozen? ⟨p, i, none⟩ = false := fun i hi => ⟨sc_ne (P1.kp i hi).1 (fun e => t9 (e ▸ hi)), sc_fr (P1.kp i hi).2⟩
        have u2 : Upd (· = p) w (w1.setCell ⟨p, po + 1, none⟩ (.slice none 0 0)) := (u1.mono (fun _ _ h => h.elim)).trans up
        have z2 := hide <| show w.heap.size + 2 ≤ (w1.setCell ⟨p, po + 1, none⟩ (.slice none 0 0)).heap.size from Nat.le_trans z1.out up.size
        clear P1 r1 q1 q2 D1 z1 u1 up a2 a3 a4
        generalize w1.setCell ⟨p, po + 1, none⟩ (.slice none 0 0) = w2 at *
        obtain ⟨ld, d0, d1⟩ := D2
        obtain ⟨lr, e0, e1⟩ := r2
        have t3' : ∀ o, (w2.alloc o).cell? ⟨p, po + 1, none⟩ = some (.slice none 0 0) := fun o => (World.cell?_alloc_past _ _ _ t1).trans t3
        go_region_law (refine step_draw rfl (.tmp 60) (.tmp 62) rfl B [] _ rfl ⟨w2.heap.size, 0, none⟩ rfl R 1 (Duo0 w2.drew _ _ _) (Duo1 w2.drew _ _ _) (OwnD.nil _ _) (by have := z2.out; simp; omega) (by simp) ?_; intro v3 w3 o4 g4 s4; have u3 := draw_upd g4; obtain ⟨va', vc', hv3, hvc1, hvc2, _, _⟩ := o4.form; subst hv3; have k1 := (u3.cell (p := ⟨p, po + 1, none⟩) t1 (fun e => by cases e)).trans t3; have k2 := (u3.frozen (p := ⟨p, po + 1, none⟩) t1 (fun e => by cases e)).trans t4)
        all_goals
          have x0 := (u3.cell (p := ⟨w.heap.size + 1, 0, none⟩) ld (fun e => by cases e)).trans d0
          have x1 := (u3.cell (p := ⟨w.heap.size + 1, 1, none⟩) ld (fun e => by cases e)).trans d1
          have y0 := (u3.cell (p := ⟨w.heap.size, 0, none⟩) lr (fun e => by cases e)).trans e0
          have y1 := (u3.cell (p := ⟨w.heap.size, 1, none⟩) lr (fun e => by cases e)).trans e1
          have z3 := (u3.frozen (p := ⟨w.heap.size, 0, none⟩) lr (fun e => by cases e)).trans q3
          have z4 := (u3.frozen (p := ⟨w.heap.size, 1, none⟩) lr (fun e => by cases e)).trans q4
          have c2 := (u3.cell (p := ⟨p, po, none⟩) t1 (fun e => by cases e)).trans t2
          have gb' : ¬ p = w.heap.size := by omega
          go_wp2
          have o5 : OwnD B w3 (.slice va' 1 vc') (dl R 1) := o4
          have hs5 : (Value.slice va' 1 vc').ownBlock = some (w2.heap.size + 1) := by
            rcases s4 with h | h
            · have o6 := o4
              rcases o6.2 with ⟨_, h2⟩ | ⟨g, _, _, h2, _⟩
              · cases h2
              · cases h2; cases h
            · have : (Value.slice va' 1 vc').ownBlock = some (w2.drew.alloc _).heap.size := h
              rw [this]; simp
          have s3 := u3.size
          refine bodyPost_ret (v := .tuple #[.agg #[.int .u64 R, .int .u64 1], .int .i64 0]) (by simp [results, Try.results32, go_sem, y0, y1]) rfl ⟨rfl, .slice va' 1 vc', ?_, ⟨_, hs5, by have := z2.out; omega⟩, ?_⟩
          · exact QPrs.done (by omega) c2 k1 k2 o5 hpB hpc (by omega) t9 (fun i hi => ⟨(u3.cell (p := ⟨p, i, none⟩) t1 (fun e => by cases e)).trans (t10 i hi).1, (u3.frozen (p := ⟨p, i, none⟩) t1 (fun e => by cases e)).trans (t10 i hi).2⟩) gb' (fun k hk e => by rw [hs5] at hk; cases hk; have := z2.out; omega)
          · refine Upd.setCell (Upd.setCell (Upd.setCell (p := ⟨p, po + 1, none⟩) (u2.trans (u3.mono (fun k _ h => by cases h))) (.inl rfl) _) (.inr (Nat.le_refl _)) _) (.inr (Nat.le_refl _)) _

end Go.Proofs.Ytilngncjbikkgaa
