import Derived.Test.YtilngncjbikkgaaGx
import Derived.Laws.AppendOwnNone
namespace Go.Proofs.Ytilngncjbikkgaa
open Go.RowKit
set_option linter.unusedVariables false
set_option linter.unusedSimpArgs false

/-- A group over a clock: where it lies, what each replica remembers, what was drawn. -/
structure GD (w : World) (B g c sg n cap : Nat) (p : Nat → Nat) (vd : Value) (R : Int) (rd md : Nat → Int) (L : List (Int × Int × Int)) : Prop where
  G : Gr w g sg n cap c vd
  A : ∀ j, j < n → At w sg j (p j)
  pp : ∀ j, j < n → w.cell? ⟨g, 3 + j, none⟩ = some (.pointer (some ⟨p j, 0, none⟩))
  P : ∀ j, j < n → Prs w (p j) c (rd j) (md j)
  C : Clk w c R
  D : OwnS B w vd L
  inj : ∀ j k, j < n → k < n → p j = p k → j = k
  gp : ∀ j, j < n → g ≠ p j ∧ sg ≠ p j ∧ c ≠ p j ∧ p j < B
  gB : g < B ∧ sg < B ∧ c < B
  gs : g ≠ sg ∧ g ≠ c ∧ sg ≠ c
  hB : B ≤ w.heap.size
  n7 : n ≤ 7
  dn : L = [] → vd = .slice none 0 0
theorem GD.bel {w w' : World} {B g c sg n cap : Nat} {p : Nat → Nat} {vd : Value} {R : Int} {rd md : Nat → Int} {L : List (Int × Int × Int)} (h : GD w B g c sg n cap p vd R rd md L) (b : Below w.heap.size w w') : GD w' B g c sg n cap p vd R rd md L := by
  have u : Upd (fun _ => False) w w' := Upd.of_below b
  exact ⟨h.G.upd u id, fun j hj => (h.A j hj).upd u h.G.slt id, fun j hj => (u.cell (p := ⟨g, 3 + j, none⟩) h.G.lt id).trans (h.pp j hj), fun j hj => (h.P j hj).upd u id, h.C.upd u id, h.D.upd u (fun _ _ => id), h.inj, h.gp, h.gB, h.gs, Nat.le_trans h.hB u.size, h.n7, h.dn⟩
/-- Blocks that are none of the group's may change. -/
theorem GD.upd {S : Nat → Prop} {w w' : World} {B g c sg n cap : Nat} {p : Nat → Nat} {vd : Value} {R : Int} {rd md : Nat → Int} {L : List (Int × Int × Int)} (h : GD w B g c sg n cap p vd R rd md L) (u : Upd S w w') (h1 : ∀ k, k < B → ¬ S k) (h2 : ∀ k, vd.ownBlock = some k → ¬ S k) : GD w' B g c sg n cap p vd R rd md L :=
  ⟨h.G.upd u (h1 _ h.gB.1), fun j hj => (h.A j hj).upd u h.G.slt (h1 _ h.gB.2.1), fun j hj => (u.cell (p := ⟨g, 3 + j, none⟩) h.G.lt (h1 _ h.gB.1)).trans (h.pp j hj), fun j hj => (h.P j hj).upd u (h1 _ (h.gp j hj).2.2.2), h.C.upd u (h1 _ h.gB.2.2), h.D.upd u h2, h.inj, h.gp, h.gB, h.gs, Nat.le_trans h.hB u.size, h.n7, h.dn⟩
theorem gk_gd {w : World} {B g c n : Nat} {p : Nat → Nat} {vs : Value} {R : Int} (h : GK w B g c n p vs R) (h1 : 1 ≤ n) (h7 : n ≤ 7) : ∃ sg cap, GD w w.heap.size g c sg n cap p (.slice none 0 0) R (fun _ => 0) (fun _ => 0) [] := by
  rcases h.own.2 with ⟨_, e⟩ | ⟨sg, cap, cur, e1, r1, r2, r3, r4⟩
  · rw [ifs_len] at e; omega
  · rw [ifs_len] at e1 r3
    have hs := World.ownsRow.lt h.own sg (by rw [e1]; rfl)
    have c0 := h.c0
    rw [e1] at c0
    refine ⟨sg, cap, ⟨h.lt, hs.2, c0, h.c1, h.c2, h.f1, r3⟩, fun j hj => ?_, h.pp, h.P, h.C, OwnS.nil _ _, h.inj, fun j hj => ?_, ⟨h.lt, hs.2, h.C.lt⟩, ?_, Nat.le_refl _, h7, fun _ => rfl⟩
    · have := World.ownsRow.cells h.own (g := sg) (by rw [e1]; rfl) j _ (ifs_at 52 p n j hj)
      rw [Addr.add_lit, Nat.zero_add] at this
      exact this
    · have := h.lo j hj
      have := h.gB
      have := h.cB
      refine ⟨by omega, ?_, by omega, by omega⟩
      exact h.ps j sg hj (by rw [e1]; rfl)
    · have := h.gB
      have := h.cB
      have := h.gc
      omega
theorem newgroup_any (n : Nat) (R : Int) (w : World) (h1 : 1 ≤ n) (h7 : n ≤ 7) (r0 : 0 ≤ R) (r1 : R ≤ 18446744073709551615) :
    Calls Try.prog 4 #[.int .i64 1, .int .i64 (n : Int), .int .u64 R] w fun e w' => ∃ g c sg cap p, e = .returned (.tuple #[.pointer (some ⟨g, 0, none⟩), .int .i64 0]) ∧ GD w' w'.heap.size g c sg n cap p (.slice none 0 0) R (fun _ => 0) (fun _ => 0) [] ∧ Below w.heap.size w w' ∧ w.heap.size ≤ g ∧ w.heap.size ≤ c ∧ ∀ j, j < n → w.heap.size ≤ p j := by
  have a1 : ¬ ((n : Int) < 1) := by omega
  have a2 : ¬ (7 < (n : Int)) := by omega
  have CG := hide (fun v => clockgroup_any n R v h7 r0 r1)
  go_enter Try.func4, Try.ntmps4
  go_wp2_with fail
  refine (CG.out _).mono ?_
  rintro e w1 ⟨g, c, B, p, vs, rfl, G, b, hg, hc⟩
  obtain ⟨sg, cap, D⟩ := gk_gd G h1 h7
  have LO : Hid (∀ j, j < n → w.heap.size ≤ p j) := fun j hj => by have := (G.lo j hj).1; have := G.gB; omega
  dsimp only
  clear G CG
  have DD := hide D
  have BB := hide b
  clear D b
  go_wp2
  go_ret2
  exact ⟨g, rfl, c, ⟨sg, cap, p, DD.out, BB.out, hg, hc, LO.out⟩⟩
section
variable {w : World} {B g c sg n cap : Nat} {p : Nat → Nat} {vd : Value} {R : Int} {rd md : Nat → Int} {L : List (Int × Int × Int)}
set_option maxRecDepth 100000 in
theorem gpass_any (by_ : Int) (h : GD w B g c sg n cap p vd R rd md L) (h0 : 0 ≤ by_) (hb : R + by_ ≤ 18446744073709551615) :
    Calls Try.prog 17 #[.pointer (some ⟨g, 0, none⟩), .int .u64 by_] w fun e w' => e = .returned (.int .i64 0) ∧ GD w' B g c sg n cap p vd (R + by_) rd md L ∧ Upd (· = c) w w' := by
  have k2 := h.G.c2
  have H := hide h
  have PS := hide (pass_ok c R by_ w h.C h0 hb)
  clear h
  go_enter Try.func17, Try.ntmps17
  go_wp2_with fail
  refine PS.out.mono ?_
  rintro e w1 ⟨rfl, c1, u1⟩
  dsimp only
  have h := H.out
  have GN : Hid (GD w1 B g c sg n cap p vd (R + by_) rd md L) := ⟨h.G.upd u1 (fun e => h.gs.2.1 e), fun j hj => (h.A j hj).upd u1 h.G.slt (fun e => h.gs.2.2 e), fun j hj => (u1.cell (p := ⟨g, 3 + j, none⟩) h.G.lt (fun e => h.gs.2.1 e)).trans (h.pp j hj), fun j hj => (h.P j hj).upd u1 (fun e => (h.gp j hj).2.2.1 e.symm), c1, h.D.upd u1 (fun k hk e => by have := (h.D.lt k hk).1; have := h.gB.2.2; have e : k = c := e; omega), h.inj, h.gp, h.gB, h.gs, Nat.le_trans h.hB u1.size, h.n7, h.dn⟩
  have UU := hide u1
  clear c1 u1 h H PS
  go_wp2
  go_ret
  exact ⟨rfl, GN.out, UU.out⟩
set_option maxRecDepth 100000 in
theorem gwipe_any (k : Nat) (h : GD w B g c sg n cap p vd R rd md L) (hk : k < n) :
    Calls Try.prog 19 #[.pointer (some ⟨g, 0, none⟩), .int .i64 (k : Int)] w fun e w' => e = .returned (.int .i64 0) ∧ GD w' B g c sg n cap p vd R (fun j => if j = k then 0 else rd j) (fun j => if j = k then 0 else md j) L ∧ Upd (· = p k) w w' := by
  have k0 := h.G.c0
  have kp := h.pp k hk
  have hcp := h.G.hcap
  have hn := h.n7
  have k7 : k < 7 := by omega
  have k7z : (k : Int) < 7 := by omega
  have k0z : 0 ≤ (k : Int) := by omega
  have H := hide h
  have PS := hide (wipe_any (p k) c (rd k) (md k) w (h.P k hk))
  clear h
  go_enter Try.func19, Try.ntmps19
  go_wp2_with (go_at_call 29; go_in)
  refine PS.out.mono ?_
  rintro e w1 ⟨rfl, p1, u1⟩
  dsimp only
  have h := H.out
  have GN : Hid (GD w1 B g c sg n cap p vd R (fun j => if j = k then 0 else rd j) (fun j => if j = k then 0 else md j) L) := ⟨h.G.upd u1 (fun e => (h.gp k hk).1 e), fun j hj => (h.A j hj).upd u1 h.G.slt (fun e => (h.gp k hk).2.1 e), fun j hj => (u1.cell (p := ⟨g, 3 + j, none⟩) h.G.lt (fun e => (h.gp k hk).1 e)).trans (h.pp j hj), fun j hj => by
      by_cases e : j = k
      · subst e; simp only [if_pos rfl]; exact p1
      · simp only [if_neg e]; exact (h.P j hj).upd u1 (fun e2 => e (h.inj j k hj hk e2)), h.C.upd u1 (fun e => (h.gp k hk).2.2.1 e), h.D.upd u1 (fun j hj e => by have := (h.D.lt j hj).1; have := (h.gp k hk).2.2.2; have e : j = p k := e; omega), h.inj, h.gp, h.gB, h.gs, Nat.le_trans h.hB u1.size, h.n7, h.dn⟩
  have UU := hide u1
  clear p1 u1 h H PS
  go_wp2
  go_ret
  exact ⟨rfl, GN.out, UU.out⟩
theorem gdraw_any (k : Nat) (h : GD w B g c sg n cap p vd R rd md L) (hk : k < n) (hm : made R (rd k) (md k) ≠ 65535) (hb : (L.length + 1) * 24 ≤ 140737488355328) :
    Calls Try.prog 21 #[.pointer (some ⟨g, 0, none⟩), .int .i64 (k : Int)] w fun e w' => e = .returned (.tuple #[.agg #[.int .u64 R, .int .u64 (made R (rd k) (md k) + 1)], .int .i64 0]) ∧ ∃ vd', GD w' B g c sg n cap p vd' R (fun j => if j = k then R else rd j) (fun j => if j = k then made R (rd k) (md k) + 1 else md j) (L ++ [((k : Int), R, made R (rd k) (md k) + 1)]) ∧ (vd'.ownBlock = vd.ownBlock ∨ ∃ k, vd'.ownBlock = some k ∧ w.heap.size ≤ k) ∧ Upd (fun i => i = p k ∨ i = g ∨ vd.ownBlock = some i) w w' := by
  obtain ⟨g1, g2, g3, g4⟩ := h.gp k hk
  refine (gdraw_ok B g sg n cap k (p k) c R (rd k) (md k) vd L w h.G hk h.n7 (h.A k hk) (h.P k hk) h.C h.D hm hb g1 g2 h.gB.1 h.gB.2.1 g4 h.gB.2.2 h.hB).mono ?_
  rintro e w' ⟨he, p1, vd', G', D', hv, u, hc⟩
  have nd : ∀ b, b < B → vd.ownBlock ≠ some b := fun b hb e => by have := (h.D.lt b e).1; omega
  refine ⟨he, vd', ⟨G', fun j hj => (h.A j hj).upd u h.G.slt ?_, fun j hj => hc _ _ (by omega) (h.pp j hj), fun j hj => ?_, h.C.upd u ?_, D', h.inj, h.gp, h.gB, h.gs, Nat.le_trans h.hB u.size, h.n7, fun e => ?_⟩, hv, u⟩
  · rintro (e | e | e)
    · exact g2 e
    · exact h.gs.1 e.symm
    · exact nd _ h.gB.2.1 e
  · by_cases e : j = k
    · subst e; simp only [if_pos rfl]; exact p1
    · simp only [if_neg e]
      refine (h.P j hj).upd u ?_
      rintro (e2 | e2 | e2)
      · exact e (h.inj j k hj hk e2)
      · exact (h.gp j hj).1 e2.symm
      · exact nd _ (h.gp j hj).2.2.2 e2
  · rintro (e | e | e)
    · exact g3 e
    · exact h.gs.2.1 e.symm
    · exact nd _ h.gB.2.2 e
  · have := congrArg List.length e
    simp at this
end

end Go.Proofs.Ytilngncjbikkgaa
