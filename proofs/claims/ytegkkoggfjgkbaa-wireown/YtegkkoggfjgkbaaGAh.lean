import Derived.Test.YtegkkoggfjgkbaaAb
import Derived.Test.YtegkkoggfjgkbaaAt
namespace Go.Proofs.Ytegkkoggfjgkbaa
open Go.RowKit Go.Maps
open Classical
set_option linter.unusedVariables false
set_option linter.unusedSimpArgs false

set_option maxRecDepth 100000 in
theorem bookBy_none (b : Nat) (a : Option Addr) (c : Nat) (w : World) : Calls Try.prog 11 #[.pointer (some ⟨b, 0, none⟩), .slice a 0 c] w fun e w' => e = .returned (.tuple #[]) ∧ w' = w := by
  go_enter Try.func11, Try.ntmps11
  go_wp2
  go_end0
  exact ⟨rfl, rfl⟩
set_option maxRecDepth 100000 in
set_option maxHeartbeats 1000000 in
theorem bookBy_any (b A B : Nat) (v : Value) (V : List (SV Int)) (x : SV Int) (w : World) (G : CY yBy zByB 0 w b A B v V) (hx : OwnY yBy A w x.v x.D) (hxb : x.v.ownBlock ≠ some b) (h0 : 0 < x.D.length) (h1 : x.D.length ≤ 140737488351300) (hn : ∀ y, y ∈ V → y.a ≠ x.a) (hV : V.length ≤ 100) :
    Calls Try.prog 11 #[.pointer (some ⟨b, 0, none⟩), .slice x.a x.D.length x.c] w fun e w' => e = .returned (.tuple #[]) ∧ ∃ v' wa w3, w' = w3.setCell ⟨b, 0, none⟩ v' ∧ Below w.heap.size w wa ∧ wa.grownBy w3 v.ownBlock ∧ CY yBy zByB 0 w' b A B v' (V ++ [x]) ∧ Upd (fun k => k = b ∨ v.ownBlock = some k) w w' ∧ (v'.ownBlock = v.ownBlock ∨ ∃ k, v'.ownBlock = some k ∧ w.heap.size ≤ k) := by
  have hbw : b < w.heap.size := Nat.lt_of_lt_of_le G.lt G.ltB
  have d5 := G.cp
  have y5 : ∀ ob, (w.alloc ob).cell? ⟨b, 0, none⟩ = some v := fun ob => (World.cell?_alloc_past _ _ _ hbw).trans d5
  have ba := (Below.refl w.heap.size w).alloc (Nat.le_refl _) (.cells #[.slice x.a x.D.length x.c] 22)
  have GA := hide (G.bel ba)
  have XA := hide (hx.grow ba)
  have SB := hide (sl_box (Y := zByB) w x 22)
  have hB := G.ltB
  have hbB := G.lt
  clear G hx
  generalize hxl : x.D.length = n at *
  have HXL := hide hxl
  have SB2 : Hid (SlY zByB (w.alloc (.cells #[.slice x.a n x.c] 22)) (some ⟨w.heap.size, 0, none⟩) 1 1 [x]) := by
    have := SB.out
    simp only [zByB, yS, hxl] at this
    exact this
  clear hxl SB
  go_enter Try.func11, Try.ntmps11
  go_wp2_with (at_builtin; go_must (refine appY kzByB _ rfl (.tmp 11) (.tmp 13) rfl B V v rfl (some ⟨w.heap.size, 0, none⟩) 1 1 rfl [x] SB2.out GA.out.o (by simp; omega) (by unfold maxLen; omega) (by show (_ + 1) * 24 ≤ _; omega) ?_))
  intro v' w3 o3 g3 n3
  have N3 : Hid (v'.ownBlock = v.ownBlock ∨ ∃ k, v'.ownBlock = some k ∧ w.heap.size ≤ k) := n3.imp id (fun ⟨k', h1, h2⟩ => ⟨k', h1, by first | omega | (simp at h2; omega)⟩)
  have zc := gcell g3 GA.out.cp (fun e => by have := (GA.out.o.blk b e).1; omega)
  have zf := gfroz g3 (by simp; omega) GA.out.fp (fun e => by have := (GA.out.o.blk b e).1; omega)
  have G4 := hide (GA.out.push hTByB XA.out hxb (by rw [HXL.out]; exact h0) (by rw [HXL.out]; exact h1) hn g3 o3)
  have U4 : Hid (Upd (fun k => k = b ∨ v.ownBlock = some k) w (w3.setCell ⟨b, 0, none⟩ v')) := (((Upd.of_below ba).trans (gupd g3 (fun k e => .inr e)))).setCell (.inl (.inl rfl)) _
  have GG := hide g3
  have BA := hide ba
  obtain ⟨r2, q2, hv2, _⟩ := o3.form
  clear o3 g3 GA XA SB2 ba n3
  generalize (V ++ [x]).length = l2 at hv2
  subst hv2
  go_wp2
  go_end0
  exact ⟨rfl, _, _, w3, rfl, BA.out, GG.out, G4.out, U4.out, N3.out⟩
theorem apartBy_by (b A B : Nat) (v : Value) (V : List (SV Int)) (w : World) (G : CY yBy zByB 0 w b A B v V) (hV : V.length ≤ 100) :
    Calls Try.prog 31 #[.pointer (some ⟨b, 0, none⟩)] w fun e w' => e = .returned (.bool true) ∧ Upd (inY V) w w' := by
  rcases G.o.2 with ⟨hv, hl⟩ | ⟨g, cap, cur, hv, h2, h3, h4, h5, _⟩
  · subst hv
    exact (apartBytes_nil b w G.cp).mono fun e w' ⟨he, bl⟩ => ⟨he, Upd.of_below bl⟩
  · subst hv
    obtain ⟨lb, own⟩ := G.lb (mk := mkByB) hTByB kzByB (fun x => rfl) rfl (by omega)
    exact (apartBy_any b g cap V.length (V.map entY) w G.cp (by simp) h4 h5 lb own).mono fun e w' ⟨he, u⟩ => ⟨he, u.mono (fun k _ hk => G.blk hk)⟩

end Go.Proofs.Ytegkkoggfjgkbaa

namespace Go.Proofs.Ytegkkoggfjgkbaa
open Go.RowKit Go.Maps
open Classical
set_option linter.unusedVariables false
set_option linter.unusedSimpArgs false

/-- A book of bytes. -/
structure B1 (w : World) (b A B : Nat) (v : Value) (V : List (SV Int)) : Prop where
  c : CY yBy zByB 0 w b A B v V
  ce : ∀ i, i < 10 → i ≠ 0 → w.cell? ⟨b, i, none⟩ = some (.slice none 0 0)
/-- Lists that wait, each in a block of its own; none of the blocks is one of N. -/
structure Pn {α : Type} (Y : Lay α) (N : Nat → Prop) (A : Nat) (w : World) (L : List (SV α)) : Prop where
  own : ∀ x, x ∈ L → OwnY Y A w x.v x.D ∧ x.D.length ≤ 140737488351300 ∧ ∀ g, x.v.ownBlock = some g → ¬ N g
  ap : L.Pairwise (fun x y => ∀ g, x.v.ownBlock = some g → y.v.ownBlock ≠ some g)
section
variable {α : Type} {Y : Lay α} {N N' S : Nat → Prop} {A : Nat} {w w' : World} {L : List (SV α)}
theorem Pn.nil (Y : Lay α) (N : Nat → Prop) (A : Nat) (w : World) : Pn Y N A w [] := ⟨(fun x hx => by cases hx), List.Pairwise.nil⟩
theorem Pn.upd (h : Pn Y N A w L) (u : Upd S w w') (hs : ∀ x, x ∈ L → ∀ g, x.v.ownBlock = some g → ¬ S g) : Pn Y N A w' L :=
  ⟨fun x hx => ⟨(h.own x hx).1.upd1 u (hs x hx), (h.own x hx).2⟩, h.ap⟩
theorem Pn.bel (h : Pn Y N A w L) (b : Below w.heap.size w w') : Pn Y N A w' L := h.upd (S := fun _ => False) (Upd.of_below b) (fun _ _ _ _ => id)
theorem Pn.more (h : Pn Y N A w L) (hN : ∀ g, N' g → N g ∨ w.heap.size ≤ g) : Pn Y N' A w L :=
  ⟨fun x hx => ⟨(h.own x hx).1, (h.own x hx).2.1, fun g hg hn => (hN g hn).elim ((h.own x hx).2.2 g hg) (fun hl => by have := ((h.own x hx).1.blk g hg).2; omega)⟩, h.ap⟩
theorem Pn.snoc (h : Pn Y N A w L) (b : Below w.heap.size w w') (hA : A ≤ w.heap.size) {a : Option Addr} {c : Nat} {D : List α} (o : OwnY Y w.heap.size w' (.slice a D.length c) D) (hl : D.length ≤ 140737488351300) (hN : ∀ g, w.heap.size ≤ g → ¬ N g) : Pn Y N A w' (L ++ [⟨a, c, D⟩]) := by
  refine ⟨fun x hx => ?_, List.pairwise_append.2 ⟨h.ap, List.pairwise_singleton _ _, fun x hx y hy g hg e => ?_⟩⟩
  · rcases List.mem_append.1 hx with hx | hx
    · exact (h.bel b).own x hx
    · simp at hx
      subst hx
      exact ⟨o.low hA, hl, fun g hg => hN g (o.blk g hg).1⟩
  · simp at hy
    subst hy
    have h1 := ((h.own x hx).1.blk g hg).2
    have h2 := (o.blk g e).1
    omega
end
structure BB (w : World) (b A B : Nat) (v : Value) (V cs : List (SV Int)) : Prop where
  k : B1 w b A B v V
  u : Pn yBy (fun g => g = b) A w cs
  d : ∀ y, y ∈ V → ∀ x, x ∈ cs → ∀ g, y.v.ownBlock = some g → x.v.ownBlock ≠ some g
section
variable {w w' : World} {b A B : Nat} {v : Value} {V cs : List (SV Int)}
theorem B1.bel (h : B1 w b A B v V) (hb : Below w.heap.size w w') : B1 w' b A B v V :=
  ⟨h.c.bel hb, fun i a1 a2 => (hb.cell (p := ⟨b, _, none⟩) (Nat.lt_of_lt_of_le h.c.lt h.c.ltB)).trans (h.ce i a1 a2)⟩
/-- A new one. -/
theorem B1.of (A : Nat) (w : World) (b : Nat) (hb : b < w.heap.size) (hc : ∀ i, i < 10 → w.cell? ⟨b, i, none⟩ = some (.slice none 0 0)) (hf : ∀ i, w.frozen? ⟨b, i, none⟩ = false) : B1 w b A w.heap.size (.slice none 0 0) [] :=
  ⟨CY.new yBy zByB 0 b A _ hb (hc 0 (by omega)) (hf 0), fun i h _ => hc i h⟩
/-- Behind a call that made new blocks alone: the lists that wait lie in them. -/
theorem BB.of {w1 : World} (h : B1 w b A B v V) (hb : Below w.heap.size w w1) (u : Pn yBy (fun g => g = b) w.heap.size w1 cs) (hA : A ≤ w.heap.size) : BB w1 b A B v V cs :=
  ⟨h.bel hb, ⟨fun x hx => ⟨(u.own x hx).1.low hA, (u.own x hx).2⟩, u.ap⟩, fun y hy x hx g hg e => by
    have h1 := ((h.c.ev y hy).1.blk g hg).2
    have h2 := ((u.own x hx).1.blk g e).1
    omega⟩
theorem B1.push {w3 wa : World} {x : SV Int} {v' : Value} (G : B1 w b A B v V) (ba : Below w.heap.size w wa) (g3 : wa.grownBy w3 v.ownBlock) (h : CY yBy zByB 0 (w3.setCell ⟨b, 0, none⟩ v') b A B v' (V ++ [x])) : B1 (w3.setCell ⟨b, 0, none⟩ v') b A B v' (V ++ [x]) := by
  have GA := G.bel ba
  have hrow : v.ownBlock ≠ some b := fun e => by have := (GA.c.o.blk b e).1; have := GA.c.lt; omega
  exact ⟨h, fun i a1 a2 => setc_ne (gcell g3 (GA.ce i a1 a2) hrow) (by omega)⟩
theorem BB.book {x : SV Int} (G : BB w b A B v V (x :: cs)) (hV : V.length ≤ 99) :
    Calls Try.prog 11 #[.pointer (some ⟨b, 0, none⟩), .slice x.a x.D.length x.c] w fun e w' => e = .returned (.tuple #[]) ∧ ∃ v' V', BB w' b A B v' V' cs ∧ V'.length ≤ V.length + 1 ∧ Upd (fun k => k = b ∨ B ≤ k) w w' := by
  obtain ⟨own, hnb, hblk⟩ := G.u.own x (List.mem_cons_self)
  have hup : Pn yBy (fun g => g = b) A w cs := ⟨fun y hy => G.u.own y (List.mem_cons_of_mem _ hy), (List.pairwise_cons.1 G.u.ap).2⟩
  have hdx := (List.pairwise_cons.1 G.u.ap).1
  have hxb : x.v.ownBlock ≠ some b := fun e => hblk b e rfl
  by_cases h0 : x.D.length = 0
  · rw [h0]
    refine (bookBy_none b x.a x.c w).mono ?_
    rintro e w2 ⟨rfl, rfl⟩
    exact ⟨rfl, v, V, ⟨G.k, hup, (fun y hy z hz => G.d y hy z (List.mem_cons_of_mem _ hz))⟩, Nat.le_succ _, Upd.refl _ _⟩
  · have := bookBy_any b A B v V x w G.k.c own hxb (by omega) hnb (fun y hy e => by
      obtain ⟨a', c', hf, _, _, hn, hs⟩ := own.form
      unfold SV.v at hf
      injection hf with f1 f2 f3
      cases hxa : x.a with
      | none =>
        rw [hxa] at f1
        have := (hn f1.symm).1
        rw [this] at h0
        exact h0 rfl
      | some z =>
        obtain ⟨g, rfl, _⟩ := hs z (by rw [← f1]; exact hxa)
        exact G.d y hy x (List.mem_cons_self) g (by unfold SV.v; rw [e, hxa]; rfl) (by unfold SV.v; rw [hxa]; rfl)) (by omega)
    refine this.mono ?_
    rintro e w2 ⟨rfl, v', wa, w3, rfl, ba, g3, cy, u, n3⟩
    have hS : ∀ {β : Type} {Y' : Lay β} {lo : Nat} {v' : Value} {l : List β}, OwnY Y' lo w v' l → Y'.T ≠ zByB.T → v'.ownBlock ≠ some b → ∀ g, v'.ownBlock = some g → ¬ (g = b ∨ v.ownBlock = some g) := fun ho hT hb g hg hs =>
      hs.elim (fun e => hb (e ▸ hg)) (fun e => ho.apart G.k.c.o hT g hg e)
    refine ⟨rfl, v', V ++ [x], ⟨G.k.push ba g3 cy, hup.upd u (fun y hy => hS (hup.own y hy).1 (by decide) (fun e => (hup.own y hy).2.2 b e rfl)), (fun y hy z hz => by
      rcases List.mem_append.1 hy with hy | hy
      · exact G.d y hy z (List.mem_cons_of_mem _ hz)
      · simp at hy; subst hy; exact hdx z hz)⟩, by simp, u.mono (fun k _ hk => hk.imp id (fun h => (G.k.c.o.blk k h).1))⟩
end

end Go.Proofs.Ytegkkoggfjgkbaa

namespace Go.Proofs.Ytegkkoggfjgkbaa
open Go.RowKit Go.Maps
open Classical
set_option linter.unusedVariables false
set_option linter.unusedSimpArgs false

section
variable {α β : Type} {Y : Lay α} {Z : Lay (SV α)} {Y' : Lay β} {p : Nat} {w w' : World} {b A B : Nat} {v : Value} {V : List (SV α)}
theorem CY.upd {S : Nat → Prop} (G : CY Y Z p w b A B v V) (u : Upd S w w') (hb : ¬ S b) (hr : ∀ g, v.ownBlock = some g → ¬ S g) (hl : ∀ x, x ∈ V → ∀ g, x.v.ownBlock = some g → ¬ S g) : CY Y Z p w' b A B v V := by
  have hlt : b < w.heap.size := Nat.lt_of_lt_of_le G.lt G.ltB
  exact ⟨G.lt, Nat.le_trans G.ltB u.size, (u.cell (p := ⟨b, p, none⟩) hlt hb).trans G.cp, (u.frozen (p := ⟨b, p, none⟩) hlt hb).trans G.fp, G.o.upd1 u hr, fun x hx => ⟨(G.ev x hx).1.upd1 u (hl x hx), (G.ev x hx).2⟩, G.nb, G.dif⟩
theorem CY.notin (G : CY Y Z p w b A B v V) {lim : Nat} {v' : Value} {l' : List β} (h : OwnY Y' lim w v' l') (hT : Y'.T ≠ Y.T) : ∀ g, v'.ownBlock = some g → ¬ inY V g := fun g hg ⟨x, hx, e⟩ =>
  h.apart (G.ev x hx).1 hT g hg (by unfold SV.v; rw [e]; rfl)
theorem CY.notb (G : CY Y Z p w b A B v V) : ¬ inY V b := fun ⟨x, hx, e⟩ => G.nb x hx (by unfold SV.v; rw [e]; rfl)
theorem CY.ge (G : CY Y Z p w b A B v V) {k : Nat} (h : inY V k) : A ≤ k ∧ k ≠ b := by
  refine ⟨?_, fun e => by subst e; exact G.notb h⟩
  obtain ⟨x, hx, e⟩ := h
  exact ((G.ev x hx).1.blk k (by unfold SV.v; rw [e]; rfl)).1
end
set_option maxRecDepth 100000 in
set_option maxHeartbeats 1000000 in
theorem apart_b1 (b A B : Nat) (v : Value) (V : List (SV Int)) (w : World) (G : B1 w b A B v V) (h2 : V.length ≤ 100) :
    Calls Try.prog 12 #[.pointer (some ⟨b, 0, none⟩)] w fun e w' => e = .returned (.bool true) ∧ Upd (fun k => A ≤ k) w w' := by
  have hbw : b < w.heap.size := Nat.lt_of_lt_of_le G.c.lt G.c.ltB
  have hnb : ¬ inY V b := G.c.notb
  have HG := hide G
  clear G
  have CE : Hid (∀ w5, Upd (fun k => inY V k) w w5 → ∀ i, i < 10 → i ≠ 0 → w5.cell? ⟨b, i, none⟩ = some (.slice none 0 0)) := fun w5 u i a1 a2 => (u.cell (p := ⟨b, i, none⟩) hbw hnb).trans (HG.out.ce i a1 a2)
  go_enter Try.func12, Try.ntmps12
  go_wp2_with fail
  refine (apartBy_by b A B v V w HG.out.c h2).mono ?_
  rintro e w1 ⟨rfl, u1⟩
  have U1 : Hid (Upd (fun k => inY V k) w w1) := u1
  clear u1
  go_wp2_with fail
  refine (apartInts_nil b w1 (CE.out w1 U1.out 1 (by omega) (by omega))).mono ?_
  rintro e w2 ⟨rfl, b1⟩
  have U2 : Hid (Upd (fun k => inY V k) w w2) := U1.out.trans (Upd.of_below b1)
  clear b1
  go_wp2_with fail
  refine (apartVector_nil b w2 (CE.out w2 U2.out 2 (by omega) (by omega))).mono ?_
  rintro e w3 ⟨rfl, b1⟩
  have U3 : Hid (Upd (fun k => inY V k) w w3) := U2.out.trans (Upd.of_below b1)
  clear b1
  go_wp2_with fail
  refine (apartEntries_nil b w3 (CE.out w3 U3.out 3 (by omega) (by omega))).mono ?_
  rintro e w4 ⟨rfl, b1⟩
  have U4 : Hid (Upd (fun k => inY V k) w w4) := U3.out.trans (Upd.of_below b1)
  clear b1
  go_wp2_with fail
  refine (apartCells_nil b w4 (CE.out w4 U4.out 4 (by omega) (by omega))).mono ?_
  rintro e w5 ⟨rfl, b1⟩
  have U5 : Hid (Upd (fun k => inY V k) w w5) := U4.out.trans (Upd.of_below b1)
  clear b1
  go_wp2_with fail
  refine (apartRows_nil b w5 (CE.out w5 U5.out 5 (by omega) (by omega))).mono ?_
  rintro e w6 ⟨rfl, b1⟩
  have U6 : Hid (Upd (fun k => inY V k) w w6) := U5.out.trans (Upd.of_below b1)
  clear b1
  go_wp2_with fail
  refine (apartResults_nil b w6 (CE.out w6 U6.out 6 (by omega) (by omega))).mono ?_
  rintro e w7 ⟨rfl, b1⟩
  have U7 : Hid (Upd (fun k => inY V k) w w7) := U6.out.trans (Upd.of_below b1)
  clear b1
  go_wp2_with fail
  refine (apartStamps_nil b w7 (CE.out w7 U7.out 7 (by omega) (by omega))).mono ?_
  rintro e w8 ⟨rfl, b1⟩
  have U8 : Hid (Upd (fun k => inY V k) w w8) := U7.out.trans (Upd.of_below b1)
  clear b1
  go_wp2_with fail
  refine (apartAcks_nil b w8 (CE.out w8 U8.out 8 (by omega) (by omega))).mono ?_
  rintro e w9 ⟨rfl, b1⟩
  have U9 : Hid (Upd (fun k => inY V k) w w9) := U8.out.trans (Upd.of_below b1)
  clear b1
  go_wp2_with fail
  refine (apartMarks_nil b w9 (CE.out w9 U9.out 9 (by omega) (by omega))).mono ?_
  rintro e w10 ⟨rfl, b1⟩
  have U10 : Hid (Upd (fun k => inY V k) w w10) := U9.out.trans (Upd.of_below b1)
  clear b1
  go_wp2
  go_ret
  exact ⟨rfl, U10.out.mono (fun k _ h => (HG.out.c.ge h).1)⟩

end Go.Proofs.Ytegkkoggfjgkbaa
