import Derived.Test.YtilngncjbikkgaaGkh
import Derived.Test.YtilngncjbikkgaaGkd
namespace Go.Proofs.Ytilngncjbikkgaa
open Go.RowKit
set_option linter.unusedVariables false
set_option linter.unusedSimpArgs false

/-- The blocks of a group over a clock, and of one of mixed sources. -/
def gdb (g c sg n : Nat) (p : Nat → Nat) (vd : Value) (b : Nat) : Prop := b = g ∨ b = c ∨ b = sg ∨ (∃ j, j < n ∧ b = p j) ∨ vd.ownBlock = some b
def gxb (g sg n : Nat) (m : Nat → Nat) (vd : Value) (b : Nat) : Prop := b = g ∨ b = sg ∨ (∃ j, j < n ∧ b = m j) ∨ vd.ownBlock = some b
theorem GD.upd9 {S : Nat → Prop} {w w' : World} {B g c sg n cap : Nat} {p : Nat → Nat} {vd : Value} {R : Int} {rd md : Nat → Int} {L : List (Int × Int × Int)} (h : GD w B g c sg n cap p vd R rd md L) (u : Upd S w w') (hs : ∀ b, gdb g c sg n p vd b → ¬ S b) : GD w' B g c sg n cap p vd R rd md L :=
  ⟨h.G.upd u (hs _ (.inl rfl)), fun j hj => (h.A j hj).upd u h.G.slt (hs _ (.inr (.inr (.inl rfl)))), fun j hj => (u.cell (p := ⟨g, 3 + j, none⟩) h.G.lt (hs _ (.inl rfl))).trans (h.pp j hj), fun j hj => (h.P j hj).upd u (hs _ (.inr (.inr (.inr (.inl ⟨j, hj, rfl⟩))))), h.C.upd u (hs _ (.inr (.inl rfl))), h.D.upd u (fun b hb => hs b (.inr (.inr (.inr (.inr hb))))), h.inj, h.gp, h.gB, h.gs, Nat.le_trans h.hB u.size, h.n7, h.dn⟩
theorem GD.lt9 {w : World} {B g c sg n cap : Nat} {p : Nat → Nat} {vd : Value} {R : Int} {rd md : Nat → Int} {L : List (Int × Int × Int)} (h : GD w B g c sg n cap p vd R rd md L) {b : Nat} (hb : gdb g c sg n p vd b) : b < w.heap.size := by
  rcases hb with rfl | rfl | rfl | ⟨j, hj, rfl⟩ | hb
  · exact h.G.lt
  · exact h.C.lt
  · exact h.G.slt
  · exact (h.P j hj).lt
  · exact (h.D.lt b hb).2
theorem GX2.upd9 {S : Nat → Prop} {w w' : World} {B g sg n cap : Nat} {m : Nat → Nat} {vd : Value} {s : Nat → Int} {L : List (Int × Int × Int)} (h : GX2 w B g sg n cap m vd s L) (u : Upd S w w') (hs : ∀ b, gxb g sg n m vd b → ¬ S b) : GX2 w' B g sg n cap m vd s L :=
  h.upd u (fun b hb => hs b (by
    rcases hb with hb | hb | hb
    · exact .inl hb
    · exact .inr (.inl hb)
    · exact .inr (.inr (.inl hb)))) (fun b hb => hs b (.inr (.inr (.inr hb))))
theorem GX2.lt9 {w : World} {B g sg n cap : Nat} {m : Nat → Nat} {vd : Value} {s : Nat → Int} {L : List (Int × Int × Int)} (h : GX2 w B g sg n cap m vd s L) {b : Nat} (hb : gxb g sg n m vd b) : b < w.heap.size := by
  rcases hb with rfl | rfl | ⟨j, hj, rfl⟩ | hb
  · exact h.G.lt
  · exact h.G.slt
  · exact (h.P j hj).lt
  · exact (h.D.lt b hb).2
section
variable {w : World} {B g c sg n cap : Nat} {p : Nat → Nat} {vd : Value} {R : Int} {rd md : Nat → Int} {L : List (Int × Int × Int)}
theorem GD.clk9 {w1 : World} {R1 : Int} (h : GD w B g c sg n cap p vd R rd md L) (c1 : Clk w1 c R1) (u1 : Upd (· = c) w w1) : GD w1 B g c sg n cap p vd R1 rd md L :=
  ⟨h.G.upd u1 (fun e => h.gs.2.1 e), fun j hj => (h.A j hj).upd u1 h.G.slt (fun e => h.gs.2.2 e), fun j hj => (u1.cell (p := ⟨g, 3 + j, none⟩) h.G.lt (fun e => h.gs.2.1 e)).trans (h.pp j hj), fun j hj => (h.P j hj).upd u1 (fun e => (h.gp j hj).2.2.1 e.symm), c1, h.D.upd u1 (fun k hk e => by have := (h.D.lt k hk).1; have := h.gB.2.2; have e : k = c := e; omega), h.inj, h.gp, h.gB, h.gs, Nat.le_trans h.hB u1.size, h.n7, h.dn⟩
set_option maxRecDepth 100000 in
theorem gset_all (x : Int) (h : GD w B g c sg n cap p vd R rd md L) (h1 : x ≤ 18446744073709551615) :
    Calls Try.prog 15 #[.pointer (some ⟨g, 0, none⟩), .int .u64 x] w fun e w' => e = .returned (.int .i64 (sE R x)) ∧ GD w' B g c sg n cap p vd (sR R x) rd md L ∧ Upd (· = c) w w' := by
  have k2 := h.G.c2
  have H := hide h
  have PS := hide (set_any c R x w h.C h1)
  clear h
  go_enter Try.func15, Try.ntmps15
  go_wp2_with fail
  refine PS.out.mono ?_
  rintro e w1 ⟨rfl, c1, u1⟩
  have GN := hide (H.out.clk9 c1 u1)
  have UU := hide u1
  clear c1 u1 H PS
  go_wp2
  go_ret
  exact ⟨rfl, GN.out, UU.out⟩
set_option maxRecDepth 100000 in
theorem gpass_all (x : Int) (h : GD w B g c sg n cap p vd R rd md L) (h0 : 0 ≤ x) :
    Calls Try.prog 17 #[.pointer (some ⟨g, 0, none⟩), .int .u64 x] w fun e w' => e = .returned (.int .i64 (pE R x)) ∧ GD w' B g c sg n cap p vd (pR R x) rd md L ∧ Upd (· = c) w w' := by
  have k2 := h.G.c2
  have H := hide h
  have PS := hide (pass_any c R x w h.C h0)
  clear h
  go_enter Try.func17, Try.ntmps17
  go_wp2_with fail
  refine PS.out.mono ?_
  rintro e w1 ⟨rfl, c1, u1⟩
  have GN := hide (H.out.clk9 c1 u1)
  have UU := hide u1
  clear c1 u1 H PS
  go_wp2
  go_ret
  exact ⟨rfl, GN.out, UU.out⟩
end
/-- A group of the program's, of either kind, with the blocks that it has. -/
def CG (w : World) (S : Nat → Prop) (g : Nat) (k : Int) (n : Nat) (R : Int) (rd : Nat → Int) (md : Nat → Nat) (s : Nat → Int) (L : List (Int × Int × Int)) : Prop :=
  (∀ b, S b → b < w.heap.size) ∧ ((k = 1 ∧ ∃ B c sg cap p vd, GD w B g c sg n cap p vd R rd (fun j => (md j : Int)) L ∧ ∀ b, gdb g c sg n p vd b → S b) ∨ (k = 2 ∧ ∃ B sg cap m vd, GX2 w B g sg n cap m vd s L ∧ ∀ b, gxb g sg n m vd b → S b))
/-- The document's. -/
def RA (w : World) (T : Nat → Prop) (g : Nat) (k : Int) (n : Nat) (R : Int) (rd : Nat → Int) (md : Nat → Nat) (s : Nat → Int) (L : List (Int × Int × Int)) : Prop :=
  (∀ b, T b → b < w.heap.size) ∧ ∃ B pg mg cp cm vt v, RG w B g pg mg n cp cm vt k R rd md v s L ∧ ∀ b, rgb g pg mg n vt v b → T b
/-- .. and what it may have more than before. -/
def More (w : World) (S S' : Nat → Prop) : Prop := ∀ b, S' b → S b ∨ w.heap.size ≤ b
section
variable {w : World} {S T : Nat → Prop} {g : Nat} {k : Int} {n : Nat} {R : Int} {rd : Nat → Int} {md : Nat → Nat} {s : Nat → Int} {L : List (Int × Int × Int)}
theorem CG.upd {U : Nat → Prop} {w' : World} (h : CG w S g k n R rd md s L) (u : Upd U w w') (hs : ∀ b, S b → ¬ U b) : CG w' S g k n R rd md s L := by
  obtain ⟨h1, h2⟩ := h
  refine ⟨fun b hb => Nat.lt_of_lt_of_le (h1 b hb) u.size, ?_⟩
  rcases h2 with ⟨e, B, c, sg, cap, p, vd, h, hb⟩ | ⟨e, B, sg, cap, m, vd, h, hb⟩
  · exact .inl ⟨e, B, c, sg, cap, p, vd, h.upd9 u (fun b h => hs b (hb b h)), hb⟩
  · exact .inr ⟨e, B, sg, cap, m, vd, h.upd9 u (fun b h => hs b (hb b h)), hb⟩
theorem RA.upd {U : Nat → Prop} {w' : World} (h : RA w T g k n R rd md s L) (u : Upd U w w') (hs : ∀ b, T b → ¬ U b) : RA w' T g k n R rd md s L := by
  obtain ⟨h1, B, pg, mg, cp, cm, vt, v, h, hb⟩ := h
  exact ⟨fun b hb => Nat.lt_of_lt_of_le (h1 b hb) u.size, B, pg, mg, cp, cm, vt, v, h.upd u (fun b h => hs b (hb b h)), hb⟩
def mSE (k R x : Int) : Int := if k = 1 then sE R x else 0
def mSR (k R x : Int) : Int := if k = 1 then sR R x else R
def mPE (k R x : Int) : Int := if k = 1 then pE R x else 0
def mPR (k R x : Int) : Int := if k = 1 then pR R x else R
theorem cg_set (h : CG w S g k n R rd md s L) (x : Int) (h1 : x ≤ 18446744073709551615) :
    Calls Try.prog 15 #[.pointer (some ⟨g, 0, none⟩), .int .u64 x] w fun e w' => e = .returned (.int .i64 (mSE k R x)) ∧ CG w' S g k n (mSR k R x) rd md s L ∧ Upd S w w' := by
  obtain ⟨h0, ⟨rfl, B, c, sg, cap, p, vd, h, hb⟩ | ⟨rfl, B, sg, cap, m, vd, h, hb⟩⟩ := h
  · refine (gset_all x h h1).mono ?_
    rintro e w' ⟨rfl, h', u⟩
    exact ⟨by rw [mSE, if_pos rfl], ⟨fun b hb => Nat.lt_of_lt_of_le (h0 b hb) u.size, .inl ⟨rfl, B, c, sg, cap, p, vd, by rw [mSR, if_pos rfl]; exact h', hb⟩⟩, u.mono (fun b _ e => hb b (.inr (.inl e)))⟩
  · refine (gmset_any x h.G.c2).mono ?_
    rintro e w' ⟨rfl, rfl⟩
    exact ⟨by rw [mSE, if_neg (by decide)], ⟨h0, .inr ⟨rfl, B, sg, cap, m, vd, h, hb⟩⟩, Upd.refl _ _⟩
theorem cg_pass (h : CG w S g k n R rd md s L) (x : Int) (x0 : 0 ≤ x) :
    Calls Try.prog 17 #[.pointer (some ⟨g, 0, none⟩), .int .u64 x] w fun e w' => e = .returned (.int .i64 (mPE k R x)) ∧ CG w' S g k n (mPR k R x) rd md s L ∧ Upd S w w' := by
  obtain ⟨h0, ⟨rfl, B, c, sg, cap, p, vd, h, hb⟩ | ⟨rfl, B, sg, cap, m, vd, h, hb⟩⟩ := h
  · refine (gpass_all x h x0).mono ?_
    rintro e w' ⟨rfl, h', u⟩
    exact ⟨by rw [mPE, if_pos rfl], ⟨fun b hb => Nat.lt_of_lt_of_le (h0 b hb) u.size, .inl ⟨rfl, B, c, sg, cap, p, vd, by rw [mPR, if_pos rfl]; exact h', hb⟩⟩, u.mono (fun b _ e => hb b (.inr (.inl e)))⟩
  · refine (gmpass_any x h.G.c2).mono ?_
    rintro e w' ⟨rfl, rfl⟩
    exact ⟨by rw [mPE, if_neg (by decide)], ⟨h0, .inr ⟨rfl, B, sg, cap, m, vd, h, hb⟩⟩, Upd.refl _ _⟩
theorem ra_set (h : RA w T g k n R rd md s L) (hk : k = 1 ∨ k = 2) (x : Int) (x0 : 0 ≤ x) (h1 : x ≤ 18446744073709551615) :
    Calls Try.prog 16 #[.pointer (some ⟨g, 0, none⟩), .int .u64 x] w fun e w' => e = .returned (.int .i64 (mSE k R x)) ∧ RA w' T g k n (mSR k R x) rd md s L ∧ Upd T w w' := by
  obtain ⟨h0, B, pg, mg, cp, cm, vt, v, h, hb⟩ := h
  rcases hk with rfl | rfl
  · refine (rgset_clock x h x0 h1).mono ?_
    rintro e w' ⟨rfl, h', u⟩
    exact ⟨by rw [mSE, if_pos rfl], ⟨fun b hb => Nat.lt_of_lt_of_le (h0 b hb) u.size, B, pg, mg, cp, cm, vt, v, by rw [mSR, if_pos rfl]; exact h', hb⟩, u.mono (fun b _ e => hb b (.inl e))⟩
  · refine (rgset_mixed x h.c0).mono ?_
    rintro e w' ⟨rfl, rfl⟩
    exact ⟨by rw [mSE, if_neg (by decide)], ⟨h0, B, pg, mg, cp, cm, vt, v, h, hb⟩, Upd.refl _ _⟩
theorem ra_pass (h : RA w T g k n R rd md s L) (hk : k = 1 ∨ k = 2) (x : Int) (x0 : 0 ≤ x) :
    Calls Try.prog 18 #[.pointer (some ⟨g, 0, none⟩), .int .u64 x] w fun e w' => e = .returned (.int .i64 (mPE k R x)) ∧ RA w' T g k n (mPR k R x) rd md s L ∧ Upd T w w' := by
  obtain ⟨h0, B, pg, mg, cp, cm, vt, v, h, hb⟩ := h
  rcases hk with rfl | rfl
  · refine (rgpass_clock x h x0).mono ?_
    rintro e w' ⟨rfl, h', u⟩
    exact ⟨by rw [mPE, if_pos rfl], ⟨fun b hb => Nat.lt_of_lt_of_le (h0 b hb) u.size, B, pg, mg, cp, cm, vt, v, by rw [mPR, if_pos rfl]; exact h', hb⟩, u.mono (fun b _ e => hb b (.inl e))⟩
  · refine (rgpass_mixed x h.c0).mono ?_
    rintro e w' ⟨rfl, rfl⟩
    exact ⟨by rw [mPE, if_neg (by decide)], ⟨h0, B, pg, mg, cp, cm, vt, v, h, hb⟩, Upd.refl _ _⟩
end

end Go.Proofs.Ytilngncjbikkgaa
