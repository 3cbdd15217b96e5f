import Derived.Test.YtacalgpdhgpmbaaBh
namespace Go.Proofs.Ytacalgpdhgpmbaa
open Go.RowKit Go.Maps
open Classical
set_option linter.unusedVariables false
set_option linter.unusedSimpArgs false

/-- A book of cells and results. -/
structure B2 (w : World) (b A B : Nat) (v2 v3 : Value) (V2 : List (SV Cl)) (V3 : List (SV Rs)) : Prop where
  c : CY yCl zClB 4 w b A B v2 V2
  r : CY yRs zRsB 6 w b A B v3 V3
  ce : ∀ i, i < 10 → i ≠ 4 → i ≠ 6 → w.cell? ⟨b, i, none⟩ = some (.slice none 0 0)
/-- Lists that wait, each in a block of its own; none of the blocks is one of N. -/
structure Pn {α : Type} (Y : Lay α) (N : Nat → Prop) (A : Nat) (w : World) (L : List (SV α)) : Prop where
  own : ∀ x, x ∈ L → OwnY Y A w x.v x.D ∧ x.D.length ≤ 4398046510976 ∧ ∀ g, x.v.ownBlock = some g → ¬ N g
  ap : L.Pairwise (fun x y => ∀ g, x.v.ownBlock = some g → y.v.ownBlock ≠ some g)
section
variable {α : Type} {Y : Lay α} {N N' S : Nat → Prop} {A : Nat} {w w' : World} {L : List (SV α)}
theorem Pn.nil (Y : Lay α) (N : Nat → Prop) (A : Nat) (w : World) : Pn Y N A w [] := ⟨(fun x hx => by cases hx), List.Pairwise.nil⟩
theorem Pn.upd (h : Pn Y N A w L) (u : Upd S w w') (hs : ∀ x, x ∈ L → ∀ g, x.v.ownBlock = some g → ¬ S g) : Pn Y N A w' L :=
  ⟨fun x hx => ⟨(h.own x hx).1.upd1 u (hs x hx), (h.own x hx).2⟩, h.ap⟩
theorem Pn.bel (h : Pn Y N A w L) (b : Below w.heap.size w w') : Pn Y N A w' L := h.upd (S := fun _ => False) (Upd.of_below b) (fun _ _ _ _ => id)
theorem Pn.more (h : Pn Y N A w L) (hN : ∀ g, N' g → N g ∨ w.heap.size ≤ g) : Pn Y N' A w L :=
  ⟨fun x hx => ⟨(h.own x hx).1, (h.own x hx).2.1, fun g hg hn => (hN g hn).elim ((h.own x hx).2.2 g hg) (fun hl => by have := ((h.own x hx).1.blk g hg).2; omega)⟩, h.ap⟩
theorem Pn.snoc (h : Pn Y N A w L) (b : Below w.heap.size w w') (hA : A ≤ w.heap.size) {a : Option Addr} {c : Nat} {D : List α} (o : OwnY Y w.heap.size w' (.slice a D.length c) D) (hl : D.length ≤ 4398046510976) (hN : ∀ g, w.heap.size ≤ g → ¬ N g) : Pn Y N A w' (L ++ [⟨a, c, D⟩]) := by
  refine ⟨fun x hx => ?_, List.pairwise_append.2 ⟨h.ap, List.pairwise_singleton _ _, fun x hx y hy g hg e => ?_⟩⟩
  · rcases List.mem_append.1 hx with hx | hx
    · exact (h.bel b).own x hx
    · simp at hx
      subst hx
      exact ⟨o.low hA, hl, fun g hg => hN g (o.blk g hg).1⟩
  · simp at hy
    subst hy
    have h1 := ((h.own x hx).1.blk g hg).2
    have h2 := (o.blk g e).1
    omega
end
structure BB (N : Nat → Prop) (w : World) (b A B : Nat) (v2 v3 : Value) (V2 : List (SV Cl)) (V3 : List (SV Rs)) (cs : List (SV Cl)) (rs : List (SV Rs)) (vw : Value) (Dw : List Cl) : Prop where
  nb : N b
  ab : A ≤ b
  k : B2 w b A B v2 v3 V2 V3
  u2 : Pn yCl N A w cs
  u3 : Pn yRs N A w rs
  d2 : ∀ y, y ∈ V2 → ∀ x, x ∈ cs → ∀ g, y.v.ownBlock = some g → x.v.ownBlock ≠ some g
  d3 : ∀ y, y ∈ V3 → ∀ x, x ∈ rs → ∀ g, y.v.ownBlock = some g → x.v.ownBlock ≠ some g
  n2 : ∀ y, y ∈ V2 → ∀ g, y.v.ownBlock = some g → ¬ N g
  n3 : ∀ y, y ∈ V3 → ∀ g, y.v.ownBlock = some g → ¬ N g
  wa : OwnY yCl A w vw Dw
  wb : vw.ownBlock ≠ some b
section
variable {N : Nat → Prop} {w w' : World} {b A B : Nat} {v2 v3 vw : Value} {V2 cs : List (SV Cl)} {V3 rs : List (SV Rs)} {Dw : List Cl}
theorem B2.bel (h : B2 w b A B v2 v3 V2 V3) (hb : Below w.heap.size w w') : B2 w' b A B v2 v3 V2 V3 :=
  ⟨h.c.bel hb, h.r.bel hb, fun i a1 a2 a3 => (hb.cell (p := ⟨b, _, none⟩) (Nat.lt_of_lt_of_le h.c.lt h.c.ltB)).trans (h.ce i a1 a2 a3)⟩
/-- A new one. -/
theorem B2.of (A : Nat) (w : World) (b : Nat) (hb : b < w.heap.size) (hc : ∀ i, i < 10 → w.cell? ⟨b, i, none⟩ = some (.slice none 0 0)) (hf : ∀ i, w.frozen? ⟨b, i, none⟩ = false) : B2 w b A w.heap.size (.slice none 0 0) (.slice none 0 0) [] [] :=
  ⟨CY.new yCl zClB 4 b A _ hb (hc 4 (by omega)) (hf 4), CY.new yRs zRsB 6 b A _ hb (hc 6 (by omega)) (hf 6), fun i h _ _ => hc i h⟩
theorem BB.of (hN : N b) (hA : A ≤ b) (hb : b < w.heap.size) (hc : ∀ i, i < 10 → w.cell? ⟨b, i, none⟩ = some (.slice none 0 0)) (hf : ∀ i, w.frozen? ⟨b, i, none⟩ = false) (u2 : Pn yCl N A w cs) (u3 : Pn yRs N A w rs) (wa : OwnY yCl A w vw Dw) (wb : vw.ownBlock ≠ some b) : BB N w b A w.heap.size (.slice none 0 0) (.slice none 0 0) [] [] cs rs vw Dw :=
  ⟨hN, hA, B2.of A w b hb hc hf, u2, u3, (fun y hy => by cases hy), (fun y hy => by cases hy), (fun y hy => by cases hy), (fun y hy => by cases hy), wa, wb⟩
theorem B2.pushCl {w3 wa : World} {x : SV Cl} {v' : Value} (G : B2 w b A B v2 v3 V2 V3) (ba : Below w.heap.size w wa) (g3 : wa.grownBy w3 v2.ownBlock) (h : CY yCl zClB 4 (w3.setCell ⟨b, 4, none⟩ v') b A B v' (V2 ++ [x])) : B2 (w3.setCell ⟨b, 4, none⟩ v') b A B v' v3 (V2 ++ [x]) V3 := by
  have GA := G.bel ba
  have hrow : v2.ownBlock ≠ some b := fun e => by have := (GA.c.o.blk b e).1; have := GA.c.lt; omega
  exact ⟨h, GA.r.beside GA.c.o GA.c.lt (by decide) (by decide) (by decide) g3, fun i a1 a2 a3 => setc_ne (gcell g3 (GA.ce i a1 a2 a3) hrow) (by omega)⟩
theorem BB.bookCl {x : SV Cl} (G : BB N w b A B v2 v3 V2 V3 (x :: cs) rs vw Dw) (hV : V2.length ≤ 99) :
    Calls Try.prog 35 #[.pointer (some ⟨b, 0, none⟩), .slice x.a x.D.length x.c] w fun e w' => e = .returned (.tuple #[]) ∧ ∃ v' V', BB N w' b A B v' v3 V' V3 cs rs vw Dw ∧ V'.length ≤ V2.length + 1 ∧ Upd (fun k => A ≤ k) w w' := by
  obtain ⟨own, hnb, hblk⟩ := G.u2.own x (List.mem_cons_self)
  have hup : Pn yCl N A w cs := ⟨fun y hy => G.u2.own y (List.mem_cons_of_mem _ hy), (List.pairwise_cons.1 G.u2.ap).2⟩
  have hdx := (List.pairwise_cons.1 G.u2.ap).1
  have hxb : x.v.ownBlock ≠ some b := fun e => hblk b e (G.nb)
  by_cases h0 : x.D.length = 0
  · rw [h0]
    refine (bookCl_none b x.a x.c w).mono ?_
    rintro e w2 ⟨rfl, rfl⟩
    exact ⟨rfl, v2, V2, ⟨G.nb, G.ab, G.k, hup, G.u3, (fun y hy z hz => G.d2 y hy z (List.mem_cons_of_mem _ hz)), G.d3, G.n2, G.n3, G.wa, G.wb⟩, Nat.le_succ _, Upd.refl _ _⟩
  · have := bookCl_any b A B v2 V2 x w G.k.c own hxb (by omega) hnb (fun y hy e => by
      obtain ⟨a', c', hf, _, _, hn, hs⟩ := own.form
      unfold SV.v at hf
      injection hf with f1 f2 f3
      cases hxa : x.a with
      | none =>
        rw [hxa] at f1
        have := (hn f1.symm).1
        rw [this] at h0
        exact h0 rfl
      | some z =>
        obtain ⟨g, rfl, _⟩ := hs z (by rw [← f1]; exact hxa)
        exact G.d2 y hy x (List.mem_cons_self) g (by unfold SV.v; rw [e, hxa]; rfl) (by unfold SV.v; rw [hxa]; rfl)) (by omega)
    refine this.mono ?_
    rintro e w2 ⟨rfl, v', wa, w3, rfl, ba, g3, cy, u, n3⟩
    have hS : ∀ {β : Type} {Y' : Lay β} {lo : Nat} {v : Value} {l : List β}, OwnY Y' lo w v l → Y'.T ≠ zClB.T → v.ownBlock ≠ some b → ∀ g, v.ownBlock = some g → ¬ (g = b ∨ v2.ownBlock = some g) := fun ho hT hb g hg hs =>
      hs.elim (fun e => hb (e ▸ hg)) (fun e => ho.apart G.k.c.o hT g hg e)
    refine ⟨rfl, v', V2 ++ [x], ⟨G.nb, G.ab, G.k.pushCl ba g3 cy, hup.upd u (fun y hy => hS (hup.own y hy).1 (by decide) (fun e => (hup.own y hy).2.2 b e G.nb)), G.u3.upd u (fun y hy => hS (G.u3.own y hy).1 (by decide) (fun e => (G.u3.own y hy).2.2 b e G.nb)), (fun y hy z hz => by
      rcases List.mem_append.1 hy with hy | hy
      · exact G.d2 y hy z (List.mem_cons_of_mem _ hz)
      · simp at hy; subst hy; exact hdx z hz), G.d3, (fun y hy => by
      rcases List.mem_append.1 hy with hy | hy
      · exact G.n2 y hy
      · simp at hy; subst hy; exact hblk), G.n3, G.wa.upd1 u (hS G.wa (by decide) G.wb), G.wb⟩, by simp, u.mono (fun k _ hk => ?_)⟩
    rcases hk with rfl | hk
    · exact G.ab
    · have := (G.k.c.o.blk k hk).1; have := G.k.c.lt; have := G.ab; omega
theorem B2.pushRs {w3 wa : World} {x : SV Rs} {v' : Value} (G : B2 w b A B v2 v3 V2 V3) (ba : Below w.heap.size w wa) (g3 : wa.grownBy w3 v3.ownBlock) (h : CY yRs zRsB 6 (w3.setCell ⟨b, 6, none⟩ v') b A B v' (V3 ++ [x])) : B2 (w3.setCell ⟨b, 6, none⟩ v') b A B v2 v' V2 (V3 ++ [x]) := by
  have GA := G.bel ba
  have hrow : v3.ownBlock ≠ some b := fun e => by have := (GA.r.o.blk b e).1; have := GA.r.lt; omega
  exact ⟨GA.c.beside GA.r.o GA.r.lt (by decide) (by decide) (by decide) g3, h, fun i a1 a2 a3 => setc_ne (gcell g3 (GA.ce i a1 a2 a3) hrow) (by omega)⟩
theorem BB.bookRs {x : SV Rs} (G : BB N w b A B v2 v3 V2 V3 cs (x :: rs) vw Dw) (hV : V3.length ≤ 99) :
    Calls Try.prog 36 #[.pointer (some ⟨b, 0, none⟩), .slice x.a x.D.length x.c] w fun e w' => e = .returned (.tuple #[]) ∧ ∃ v' V', BB N w' b A B v2 v' V2 V' cs rs vw Dw ∧ V'.length ≤ V3.length + 1 ∧ Upd (fun k => A ≤ k) w w' := by
  obtain ⟨own, hnb, hblk⟩ := G.u3.own x (List.mem_cons_self)
  have hup : Pn yRs N A w rs := ⟨fun y hy => G.u3.own y (List.mem_cons_of_mem _ hy), (List.pairwise_cons.1 G.u3.ap).2⟩
  have hdx := (List.pairwise_cons.1 G.u3.ap).1
  have hxb : x.v.ownBlock ≠ some b := fun e => hblk b e (G.nb)
  by_cases h0 : x.D.length = 0
  · rw [h0]
    refine (bookRs_none b x.a x.c w).mono ?_
    rintro e w2 ⟨rfl, rfl⟩
    exact ⟨rfl, v3, V3, ⟨G.nb, G.ab, G.k, G.u2, hup, G.d2, (fun y hy z hz => G.d3 y hy z (List.mem_cons_of_mem _ hz)), G.n2, G.n3, G.wa, G.wb⟩, Nat.le_succ _, Upd.refl _ _⟩
  · have := bookRs_any b A B v3 V3 x w G.k.r own hxb (by omega) hnb (fun y hy e => by
      obtain ⟨a', c', hf, _, _, hn, hs⟩ := own.form
      unfold SV.v at hf
      injection hf with f1 f2 f3
      cases hxa : x.a with
      | none =>
        rw [hxa] at f1
        have := (hn f1.symm).1
        rw [this] at h0
        exact h0 rfl
      | some z =>
        obtain ⟨g, rfl, _⟩ := hs z (by rw [← f1]; exact hxa)
        exact G.d3 y hy x (List.mem_cons_self) g (by unfold SV.v; rw [e, hxa]; rfl) (by unfold SV.v; rw [hxa]; rfl)) (by omega)
    refine this.mono ?_
    rintro e w2 ⟨rfl, v', wa, w3, rfl, ba, g3, cy, u, n3⟩
    have hS : ∀ {β : Type} {Y' : Lay β} {lo : Nat} {v : Value} {l : List β}, OwnY Y' lo w v l → Y'.T ≠ zRsB.T → v.ownBlock ≠ some b → ∀ g, v.ownBlock = some g → ¬ (g = b ∨ v3.ownBlock = some g) := fun ho hT hb g hg hs =>
      hs.elim (fun e => hb (e ▸ hg)) (fun e => ho.apart G.k.r.o hT g hg e)
    refine ⟨rfl, v', V3 ++ [x], ⟨G.nb, G.ab, G.k.pushRs ba g3 cy, G.u2.upd u (fun y hy => hS (G.u2.own y hy).1 (by decide) (fun e => (G.u2.own y hy).2.2 b e G.nb)), hup.upd u (fun y hy => hS (hup.own y hy).1 (by decide) (fun e => (hup.own y hy).2.2 b e G.nb)), G.d2, (fun y hy z hz => by
      rcases List.mem_append.1 hy with hy | hy
      · exact G.d3 y hy z (List.mem_cons_of_mem _ hz)
      · simp at hy; subst hy; exact hdx z hz), G.n2, (fun y hy => by
      rcases List.mem_append.1 hy with hy | hy
      · exact G.n3 y hy
      · simp at hy; subst hy; exact hblk), G.wa.upd1 u (hS G.wa (by decide) G.wb), G.wb⟩, by simp, u.mono (fun k _ hk => ?_)⟩
    rcases hk with rfl | hk
    · exact G.ab
    · have := (G.k.r.o.blk k hk).1; have := G.k.r.lt; have := G.ab; omega
end

end Go.Proofs.Ytacalgpdhgpmbaa
