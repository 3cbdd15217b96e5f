import Derived.Test.YtilngncjbikkgaaGka
namespace Go.Proofs.Ytilngncjbikkgaa
open Go.RowKit
set_option linter.unusedVariables false
set_option linter.unusedSimpArgs false

/-- A group of mixed sources: its block. -/
structure Grm (w : World) (g sg n cap : Nat) (vd : Value) : Prop where
  lt : g < w.heap.size
  slt : sg < w.heap.size
  c0 : w.cell? ⟨g, 0, none⟩ = some (.slice (some ⟨sg, 0, none⟩) n cap)
  c1 : w.cell? ⟨g, 1, none⟩ = some vd
  c2 : w.cell? ⟨g, 2, none⟩ = some (.pointer none)
  pz : ∀ j, j < 7 → w.cell? ⟨g, 3 + j, none⟩ = some (.pointer none)
  f1 : w.frozen? ⟨g, 1, none⟩ = false
  hcap : n ≤ cap
theorem Grm.upd {S : Nat → Prop} {w w' : World} {g sg n cap : Nat} {vd : Value} (h : Grm w g sg n cap vd) (u : Upd S w w') (hs : ¬ S g) : Grm w' g sg n cap vd :=
  ⟨Nat.lt_of_lt_of_le h.lt u.size, Nat.lt_of_lt_of_le h.slt u.size, (u.cell h.lt hs).trans h.c0, (u.cell h.lt hs).trans h.c1, (u.cell h.lt hs).trans h.c2, fun j hj => (u.cell (p := ⟨g, 3 + j, none⟩) h.lt hs).trans (h.pz j hj), (u.frozen h.lt hs).trans h.f1, h.hcap⟩
theorem Grm.write {w : World} {g sg n cap : Nat} {vd : Value} (h : Grm w g sg n cap vd) (v' : Value) : Grm (w.setCell ⟨g, 1, none⟩ v') g sg n cap v' := by
  refine ⟨by simpa [World.setCell] using h.lt, by simpa [World.setCell] using h.slt, sc_ne h.c0 (by omega), sc_eq h.c1, sc_ne h.c2 (by omega), fun j hj => sc_ne (h.pz j hj) (by omega), sc_fr h.f1, h.hcap⟩
def Atm (w : World) (sg node m : Nat) : Prop := w.cell? ⟨sg, node, none⟩ = some (.iface 79 (.pointer (some ⟨m, 0, none⟩)))
theorem Atm.upd {S : Nat → Prop} {w w' : World} {sg node p : Nat} (h : Atm w sg node p) (u : Upd S w w') (hl : sg < w.heap.size) (hs : ¬ S sg) : Atm w' sg node p := (u.cell (p := ⟨sg, node, none⟩) hl hs).trans h
theorem method_mdraw (p : Nat) (k : Nat) (w : World) : (method (k + 1) 79 (.pointer (some ⟨p, 0, none⟩)) "Draw").run Try.prog w = .ok (51, .pointer (some ⟨p, 0, none⟩)) w := by kernel_rfl
theorem Mix.past {w : World} {m : Nat} {s : Int} (h : Mix w m s) {b k : Nat} (hn : m ≠ b) (u : Value) : Mix (w.setCell ⟨b, k, none⟩ u) m s := h.upd (S := (· = b)) (upd_one _ _ _ _) hn

set_option maxRecDepth 100000 in
set_option maxHeartbeats 800000 in
theorem gmdraw_ok (B g sg n cap node p : Nat) (s : Int) (vd : Value) (L : List (Int × Int × Int)) (w : World) (G : Grm w g sg n cap vd) (hn : node < n) (hn7 : n ≤ 7) (A : Atm w sg node p) (P : Mix w p s) (ho : OwnS B w vd L) (hb : (L.length + 1) * 24 ≤ 140737488355328) (hgp : g ≠ p) (hsp : sg ≠ p) (gB : g < B) (sB : sg < B) (pB : p < B) (hB : B ≤ w.heap.size) :
    Calls Try.prog 21 #[.pointer (some ⟨g, 0, none⟩), .int .i64 node] w fun e w' => e = .returned (.tuple #[.agg #[.int .u64 (wordOf (stp s)), .int .u64 (wordOf (stp (stp s)))], .int .i64 0]) ∧ Mix w' p (stp (stp s)) ∧ ∃ vd', Grm w' g sg n cap vd' ∧ OwnS B w' vd' (L ++ [((node : Int), wordOf (stp s), wordOf (stp (stp s)))]) ∧ (vd'.ownBlock = vd.ownBlock ∨ ∃ k, vd'.ownBlock = some k ∧ w.heap.size ≤ k) ∧ Upd (fun k => k = p ∨ k = g ∨ vd.ownBlock = some k) w w' := by
  have U0 : ∀ o, Upd (fun _ => False) w (w.alloc o) := fun o => (Upd.refl _ w).alloc o
  have a0 := fun o => (G.upd (U0 o) id).c0
  have a1 := fun o => A.upd (U0 o) G.slt id
  unfold Atm at a1
  have hc := G.hcap
  have hm := fun k w => method_mdraw p k w
  go_enter Try.func21, Try.ntmps21
  go_wp2_with (go_at_call 29; go_in)
  refine (mdraw_any p s _ (P.upd (U0 _) id)).mono ?_
  rintro e w1 ⟨rfl, P1, u1⟩
  have lg := G.lt
  have ls := G.slt
  have lp := P.lt
  have G1 := (G.upd (U0 _) id).upd u1 hgp
  have r0 := (Dr.new w 0 0 58).upd u1 (by show ¬ w.heap.size = p; omega)
  have rf0 : w1.frozen? ⟨w.heap.size, 0, none⟩ = false := (u1.frozen (p := ⟨w.heap.size, 0, none⟩) (by simp) (by show ¬ w.heap.size = p; omega)).trans (by simp)
  have rf1 : w1.frozen? ⟨w.heap.size, 1, none⟩ = false := (u1.frozen (p := ⟨w.heap.size, 1, none⟩) (by simp) (by show ¬ w.heap.size = p; omega)).trans (by simp)
  have u01 : Upd (· = p) w w1 := ((Upd.refl (· = p) w).alloc _).trans u1
  have o1 := (ho.alloc (.cells #[.int .u64 0, .int .u64 0] 58)).upd u1 (fun k hk => by show ¬ k = p; have := (ho.lt k hk).1; omega)
  have l1 : w.heap.size < w1.heap.size := by have := u1.size; simp at this; omega
  have hlo := ho.lt
  clear U0 a0 a1 hm ho G A u1
  generalize hS : stp (stp s) = s2 at *
  generalize hR : wordOf (stp s) = R at *
  generalize hM : wordOf s2 = M at *
  have HM := hide hM
  have HR := hide hR
  have HS := hide hS
  clear hM hR hS
  go_wp2
  have U2 := (Upd.refl (fun _ => False) w1).alloc (.cells #[.int .u64 R, .int .u64 M] 58)
  have G2 := G1.upd U2 id
  have P2 := P1.upd U2 id
  have D2 := Dr.new w1 R M 58
  have r2 := r0.upd U2 id
  have q0 : (w1.alloc (.cells #[.int .u64 R, .int .u64 M] 58)).frozen? ⟨w.heap.size, 0, none⟩ = false := (U2.frozen (p := ⟨w.heap.size, 0, none⟩) l1 id).trans rf0
  have q1 : (w1.alloc (.cells #[.int .u64 R, .int .u64 M] 58)).frozen? ⟨w.heap.size, 1, none⟩ = false := (U2.frozen (p := ⟨w.heap.size, 1, none⟩) l1 id).trans rf1
  have o2 := o1.alloc (.cells #[.int .u64 R, .int .u64 M] 58)
  have u02 : Upd (· = p) w (w1.alloc (.cells #[.int .u64 R, .int .u64 M] 58)) := u01.alloc _
  have z2 := hide <| show B ≤ (w1.alloc (.cells #[.int .u64 R, .int .u64 M] 58)).heap.size from by simp; omega
  have l2 : w.heap.size < (w1.alloc (.cells #[.int .u64 R, .int .u64 M] 58)).heap.size := by simp; omega
  clear U2 G1 P1 r0 rf0 rf1 o1 u01
  generalize w1.alloc (.cells #[.int .u64 R, .int .u64 M] 58) = w2 at *
  obtain ⟨ld, d0, d1⟩ := D2
  obtain ⟨_, e0, e1⟩ := r2
  have gc1 := G2.c1
  have gf1 := G2.f1
  have gc2 : ∀ o, (w2.alloc o).cell? ⟨g, 1, none⟩ = some vd := fun o => (World.cell?_alloc_past _ _ _ G2.lt).trans gc1
  have ng : ¬ g = w2.heap.size := by have := G2.lt; omega
  have o3 := o2.upd (S := fun _ => False) (Upd.refl _ w2).drew (fun _ _ => id)
  go_region_law (refine step_stamp rfl (.tmp 35) (.tmp 39) rfl B L vd rfl ⟨w2.heap.size, 0, none⟩ rfl node R M (Tri0 w2.drew _ _ _ _) (Tri1 w2.drew _ _ _ _) (Tri2 w2.drew _ _ _ _) (o3.alloc _) (by have := z2.out; simp; omega) hb ?_; intro v3 w3 o4 g4 s4; have b3 := stamp_bel z2.out hlo g4; have u3 := stamp_upd g4; obtain ⟨va, vc, hv3, hvc1, hvc2, _, _⟩ := o4.form; subst hv3; have k1 := (b3.cell (p := ⟨g, 1, none⟩) gB).trans gc1; have k2 := (b3.frozen (p := ⟨g, 1, none⟩) gB).trans gf1)
  all_goals
    have nq' : ¬ vd.ownBlock = some w1.heap.size := fun e => by have := (hlo _ e).2; omega
    have nr' : ¬ vd.ownBlock = some w.heap.size := fun e => by have := (hlo _ e).2; omega
    have x0 := (u3.cell (p := ⟨w1.heap.size, 0, none⟩) ld nq').trans d0
    have x1 := (u3.cell (p := ⟨w1.heap.size, 1, none⟩) ld nq').trans d1
    have y0 := (u3.cell (p := ⟨w.heap.size, 0, none⟩) l2 nr').trans e0
    have y1 := (u3.cell (p := ⟨w.heap.size, 1, none⟩) l2 nr').trans e1
    have z0 := (u3.frozen (p := ⟨w.heap.size, 0, none⟩) l2 nr').trans q0
    have z1 := (u3.frozen (p := ⟨w.heap.size, 1, none⟩) l2 nr').trans q1
    have ga : ¬ w1.heap.size = g := by omega
    have gb : ¬ w.heap.size = g := by omega
    have gb' : ¬ g = w.heap.size := by omega
    go_wp2
    have o5 : OwnS B w3 (.slice va (L.length + 1) vc) (L ++ [((node : Int), R, M)]) := by
      have := o4
      simp only [List.length_append, List.length_cons, List.length_nil, Nat.zero_add] at this
      exact this
    have hs5 : (Value.slice va (L.length + 1) vc).ownBlock = vd.ownBlock ∨ (Value.slice va (L.length + 1) vc).ownBlock = some (w2.heap.size + 1) := by
      have := s4
      simp only [List.length_append, List.length_cons, List.length_nil, Nat.zero_add] at this
      rcases this with h | h
      · exact .inl h
      · exact .inr (by rw [h]; simp)
    have hne : ∀ k, (Value.slice va (L.length + 1) vc).ownBlock = some k → k ≠ w.heap.size := by
      intro k hk e
      rcases hs5 with h | h
      · have := (hlo k (by rw [← h]; exact hk)).2; omega
      · rw [h] at hk; cases hk; omega
    refine bodyPost_ret (v := .tuple #[.agg #[.int .u64 R, .int .u64 M], .int .i64 0]) (by simp [results, Try.results21, go_sem, y0, y1]) rfl ⟨by rw [HS.out, HR.out, HM.out], ?_, ?_⟩
    · rw [HS.out]
      refine Mix.past (Mix.past (Mix.past (P2.upd u3 (fun e => ?_)) hgp.symm _) ?_ _) ?_ _
      · have := (hlo p e).1; omega
      · have := P2.lt; omega
      · have := P2.lt; omega
    · refine ⟨.slice va (L.length + 1) vc, ?_, ?_, ?_, ?_⟩
      · refine Grm.upd (S := (· = w.heap.size)) (Grm.upd (S := (· = w.heap.size)) (Grm.write (G2.upd u3 (fun e => ?_)) _) (upd_one _ _ _ _) gb') (upd_one _ _ _ _) gb'
        have := (hlo g e).1; omega
      · rw [HS.out, HR.out, HM.out]
        refine OwnS.upd (S := (· = w.heap.size)) (OwnS.upd (S := (· = w.heap.size)) (OwnS.upd (S := (· = g)) o5 (upd_one _ _ _ _) ?_) (upd_one _ _ _ _) hne) (upd_one _ _ _ _) hne
        intro k hk e
        have := (o5.lt k hk).1; omega
      · rcases hs5 with h | h
        · exact .inl h
        · exact .inr ⟨_, h, by omega⟩
      · refine Upd.setCell (Upd.setCell (Upd.setCell (p := ⟨g, 1, none⟩) ((u02.mono (fun k _ h => .inl h)).trans (u3.mono (fun k _ h => .inr (.inr h)))) (.inl (.inr (.inl rfl))) _) (.inr (Nat.le_refl _)) _) (.inr (Nat.le_refl _)) _

/-- A group of mixed sources. -/
structure GX2 (w : World) (B g sg n cap : Nat) (m : Nat → Nat) (vd : Value) (s : Nat → Int) (L : List (Int × Int × Int)) : Prop where
  G : Grm w g sg n cap vd
  A : ∀ j, j < n → Atm w sg j (m j)
  P : ∀ j, j < n → Mix w (m j) (s j)
  D : OwnS B w vd L
  inj : ∀ j k, j < n → k < n → m j = m k → j = k
  gp : ∀ j, j < n → g ≠ m j ∧ sg ≠ m j ∧ m j < B
  gB : g < B ∧ sg < B
  gs : g ≠ sg
  hB : B ≤ w.heap.size
  n7 : n ≤ 7
  dn : L = [] → vd = .slice none 0 0
theorem GX2.upd {S : Nat → Prop} {w w' : World} {B g sg n cap : Nat} {m : Nat → Nat} {vd : Value} {s : Nat → Int} {L : List (Int × Int × Int)} (h : GX2 w B g sg n cap m vd s L) (u : Upd S w w') (h1 : ∀ k, (k = g ∨ k = sg ∨ ∃ j, j < n ∧ k = m j) → ¬ S k) (h2 : ∀ k, vd.ownBlock = some k → ¬ S k) : GX2 w' B g sg n cap m vd s L :=
  ⟨h.G.upd u (h1 _ (.inl rfl)), fun j hj => (h.A j hj).upd u h.G.slt (h1 _ (.inr (.inl rfl))), fun j hj => (h.P j hj).upd u (h1 _ (.inr (.inr ⟨j, hj, rfl⟩))), h.D.upd u h2, h.inj, h.gp, h.gB, h.gs, Nat.le_trans h.hB u.size, h.n7, h.dn⟩
section
variable {w : World} {B g sg n cap : Nat} {m : Nat → Nat} {vd : Value} {s : Nat → Int} {L : List (Int × Int × Int)}
theorem cset_nil9 (x : Int) (w : World) : Calls Try.prog 26 #[.pointer none, .int .u64 x] w fun e w' => e = .returned (.int .i64 0) ∧ w' = w := by
  go_enter Try.func26, Try.ntmps26
  go_wp2
  go_ret
  exact ⟨rfl, rfl⟩
theorem cpass_nil9 (x : Int) (w : World) : Calls Try.prog 12 #[.pointer none, .int .u64 x] w fun e w' => e = .returned (.int .i64 0) ∧ w' = w := by
  go_enter Try.func12, Try.ntmps12
  go_wp2
  go_ret
  exact ⟨rfl, rfl⟩
theorem wipe_nil9 (w : World) : Calls Try.prog 30 #[.pointer none] w fun e w' => e = .returned (.tuple #[]) ∧ w' = w := by
  go_enter Try.func30, Try.ntmps30
  go_wp2
  go_end0
  exact ⟨rfl, rfl⟩
theorem gmset_any (x : Int) (c2 : w.cell? ⟨g, 2, none⟩ = some (.pointer none)) :
    Calls Try.prog 15 #[.pointer (some ⟨g, 0, none⟩), .int .u64 x] w fun e w' => e = .returned (.int .i64 0) ∧ w' = w := by
  go_enter Try.func15, Try.ntmps15
  go_wp2_with fail
  refine (cset_nil9 x w).mono ?_
  rintro e w1 ⟨rfl, rfl⟩
  go_wp2
  go_ret
  exact ⟨rfl, rfl⟩
theorem gmpass_any (x : Int) (c2 : w.cell? ⟨g, 2, none⟩ = some (.pointer none)) :
    Calls Try.prog 17 #[.pointer (some ⟨g, 0, none⟩), .int .u64 x] w fun e w' => e = .returned (.int .i64 0) ∧ w' = w := by
  go_enter Try.func17, Try.ntmps17
  go_wp2_with fail
  refine (cpass_nil9 x w).mono ?_
  rintro e w1 ⟨rfl, rfl⟩
  go_wp2
  go_ret
  exact ⟨rfl, rfl⟩
theorem gmwipe_any (k : Nat) (h : Grm w g sg n cap vd) (hk : k < n) (hn : n ≤ 7) :
    Calls Try.prog 19 #[.pointer (some ⟨g, 0, none⟩), .int .i64 (k : Int)] w fun e w' => e = .returned (.int .i64 0) ∧ w' = w := by
  have k0 := h.c0
  have kp := h.pz k (by omega)
  have hcp := h.hcap
  have k7 : k < 7 := by omega
  have k7z : (k : Int) < 7 := by omega
  have k0z : 0 ≤ (k : Int) := by omega
  clear h
  go_enter Try.func19, Try.ntmps19
  go_wp2_with (go_at_call 29; go_in)
  refine (wipe_nil9 w).mono ?_
  rintro e w1 ⟨rfl, rfl⟩
  go_wp2
  go_ret
  exact ⟨rfl, rfl⟩
theorem gwipe_bad (k : Int) (c0 : w.cell? ⟨g, 0, none⟩ = some (.slice (some ⟨sg, 0, none⟩) n cap)) (hcp : n ≤ cap) (hn : n ≤ 7) (hk : ¬ (0 ≤ k ∧ k < (n : Int))) :
    Calls Try.prog 19 #[.pointer (some ⟨g, 0, none⟩), .int .i64 k] w fun e w' => e = .returned (.int .i64 3) ∧ w' = w := by
  by_cases h1 : k < 0
  · have d1 : decide (0 ≤ k) = false := by simp; omega
    go_enter Try.func19, Try.ntmps19
    go_wp2_with (go_at_call 29; go_in)
    go_ret
    exact ⟨rfl, rfl⟩
  · have d1 : decide (0 ≤ k) = true := by simp; omega
    have d2 : decide (k < (n : Int)) = false := by simp; omega
    go_enter Try.func19, Try.ntmps19
    go_wp2_with (go_at_call 29; go_in)
    go_ret
    exact ⟨rfl, rfl⟩
theorem gdraw_bad (k : Int) (c0 : w.cell? ⟨g, 0, none⟩ = some (.slice (some ⟨sg, 0, none⟩) n cap)) (lt : g < w.heap.size) (hcp : n ≤ cap) (hn : n ≤ 7) (hk : ¬ (0 ≤ k ∧ k < (n : Int))) :
    Calls Try.prog 21 #[.pointer (some ⟨g, 0, none⟩), .int .i64 k] w fun e w' => e = .returned (.tuple #[.agg #[.int .u64 0, .int .u64 0], .int .i64 3]) ∧ Below w.heap.size w w' := by
  by_cases h1 : k < 0
  · have d1 : decide (0 ≤ k) = false := by simp; omega
    go_enter Try.func21, Try.ntmps21
    go_wp2_with (go_at_call 29; go_in)
    refine bodyPost_ret (v := .tuple #[.agg #[.int .u64 0, .int .u64 0], .int .i64 3]) (by simp [results, Try.results21, go_sem]) rfl ⟨rfl, ?_⟩
    exact (Below.refl _ _).alloc (Nat.le_refl _) _
  · have d1 : decide (0 ≤ k) = true := by simp; omega
    have d2 : decide (k < (n : Int)) = false := by simp; omega
    have c0' : ∀ o, (w.alloc o).cell? ⟨g, 0, none⟩ = some (.slice (some ⟨sg, 0, none⟩) n cap) := fun o => (World.cell?_alloc_past _ _ _ lt).trans c0
    go_enter Try.func21, Try.ntmps21
    go_wp2_with (go_at_call 29; go_in)
    refine bodyPost_ret (v := .tuple #[.agg #[.int .u64 0, .int .u64 0], .int .i64 3]) (by simp [results, Try.results21, go_sem]) rfl ⟨rfl, ?_⟩
    exact (Below.refl _ _).alloc (Nat.le_refl _) _
end

end Go.Proofs.Ytilngncjbikkgaa
