import Derived.Test.YtcchnaldanibgaaVq
namespace Go.Proofs.Ytcchnaldanibgaa
open Go.RowKit
set_option linter.unusedVariables false
set_option linter.unusedSimpArgs false

/-- A row of draws and a row of vectors are two. -/
theorem rows_apart {B B' : Nat} {w : World} {v v' : Value} {D : List (Int × Int)} {L : List Vec} {k : Nat} (h : OwnD B w v D) (h' : OwnV B' w v' L) (e : v.ownBlock = some k) (e' : v'.ownBlock = some k) : False := by
  rcases h.2 with ⟨rfl, _⟩ | ⟨g, cap, cur, rfl, _, hg, _⟩
  · cases e
  · rcases h'.2 with ⟨rfl, _⟩ | ⟨g', cap', cur', rfl, _, hg', _⟩
    · cases e'
    · cases e
      cases e'
      rw [hg] at hg'
      cases hg'
theorem OwnD.grownV {B B' : Nat} {w w' : World} {v v2 : Value} {D : List (Int × Int)} {L : List Vec} (h : OwnD B w v D) (hv : OwnV B' w v2 L) (hg : w.grownBy w' v2.ownBlock) : OwnD B w' v D := by
  refine World.ownsRow.kept h hg ?_
  cases e : v.ownBlock with
  | none => exact .inl rfl
  | some k => exact .inr (fun e' => rows_apart h hv e e'.symm)
theorem OwnV.grownV {B B' : Nat} {w w' : World} {v v2 : Value} {L L' : List Vec} (h : OwnV B w v L) (hg : w.grownBy w' v2.ownBlock) (hne : ∀ k, v.ownBlock = some k → v2.ownBlock = some k → False) : OwnV B w' v L := by
  refine World.ownsRow.kept h hg ?_
  cases e : v.ownBlock with
  | none => exact .inl rfl
  | some k => exact .inr (fun e' => hne k e e'.symm)
theorem OwnD.low_set {B : Nat} {w : World} {v : Value} {D : List (Int × Int)} (h : OwnD B w v D) {p : Addr} (hp : p.block < B) (u : Value) : OwnD B (w.setCell p u) v D := ownsRow_setCell_below h hp u
theorem OwnV.low_set {B : Nat} {w : World} {v : Value} {L : List Vec} (h : OwnV B w v L) {p : Addr} (hp : p.block < B) (u : Value) : OwnV B (w.setCell p u) v L := ownsRow_setCell_below h hp u
theorem OwnV.blk {B : Nat} {w : World} {v : Value} {L : List Vec} (h : OwnV B w v L) : ∀ k, v.ownBlock = some k → B ≤ k ∧ k < w.heap.size := World.ownsRow.lt h
theorem OwnD.blk {B : Nat} {w : World} {v : Value} {L : List (Int × Int)} (h : OwnD B w v L) : ∀ k, v.ownBlock = some k → B ≤ k ∧ k < w.heap.size := World.ownsRow.lt h

/-- A Given at block b: what it keeps, and how that was. -/
structure GX (w : World) (b B : Nat) (v2 v3 : Value) (L2 L3 : List Vec) : Prop where
  lt : b < B
  ltB : B ≤ w.heap.size
  c0 : w.cell? ⟨b, 0, none⟩ = some (.slice none 0 0)
  c4 : w.cell? ⟨b, 4, none⟩ = some (.slice none 0 0)
  c6 : w.cell? ⟨b, 6, none⟩ = some (.slice none 0 0)
  c8 : w.cell? ⟨b, 8, none⟩ = some (.slice none 0 0)
  c2 : w.cell? ⟨b, 2, none⟩ = some v2
  c3 : w.cell? ⟨b, 3, none⟩ = some v3
  f2 : w.frozen? ⟨b, 2, none⟩ = false
  f3 : w.frozen? ⟨b, 3, none⟩ = false
  o2 : OwnV B w v2 L2
  o3 : OwnV B w v3 L3
  ne : ∀ k, v2.ownBlock = some k → v3.ownBlock = some k → False
  d2 : ∀ x, x ∈ L2 → OwnD B w (.slice x.a x.D.length x.c) x.D
  d3 : ∀ x, x ∈ L3 → OwnD B w (.slice x.a x.D.length x.c) x.D
theorem GX.bel {w w' : World} {b B : Nat} {v2 v3 : Value} {L2 L3 : List Vec} (h : GX w b B v2 v3 L2 L3) (hb : Below w.heap.size w w') : GX w' b B v2 v3 L2 L3 := by
  have hlt : b < w.heap.size := Nat.lt_of_lt_of_le h.lt h.ltB
  exact ⟨h.lt, Nat.le_trans h.ltB hb.size, (hb.cell (p := ⟨b, 0, none⟩) hlt).trans h.c0, (hb.cell (p := ⟨b, 4, none⟩) hlt).trans h.c4, (hb.cell (p := ⟨b, 6, none⟩) hlt).trans h.c6, (hb.cell (p := ⟨b, 8, none⟩) hlt).trans h.c8, (hb.cell (p := ⟨b, 2, none⟩) hlt).trans h.c2, (hb.cell (p := ⟨b, 3, none⟩) hlt).trans h.c3,
    (hb.frozen (p := ⟨b, 2, none⟩) hlt).trans h.f2, (hb.frozen (p := ⟨b, 3, none⟩) hlt).trans h.f3, h.o2.bel hb (Nat.le_refl _), h.o3.bel hb (Nat.le_refl _), h.ne, fun x hx => (h.d2 x hx).bel hb (Nat.le_refl _), fun x hx => (h.d3 x hx).bel hb (Nat.le_refl _)⟩
/-- A new Given. -/
theorem GX.new (w : World) (t : TypeId) : GX (w.alloc (.cells #[.slice none 0 0, .slice none 0 0, .slice none 0 0, .slice none 0 0, .slice none 0 0, .slice none 0 0, .slice none 0 0, .slice none 0 0, .slice none 0 0, .slice none 0 0] t)) w.heap.size (w.heap.size + 1) (.slice none 0 0) (.slice none 0 0) [] [] :=
  ⟨Nat.lt_succ_self _, by simp, by simp, by simp, by simp, by simp, by simp, by simp, by simp, by simp, OwnV.nil _ _, OwnV.nil _ _, (fun k h => by cases h), (fun p hp => by cases hp), (fun p hp => by cases hp)⟩
theorem cell_set {w : World} {b i j : Nat} {u x : Value} (h : w.cell? ⟨b, i, none⟩ = some x) (hne : i ≠ j) : (w.setCell ⟨b, j, none⟩ u).cell? ⟨b, i, none⟩ = some x := by
  have hn : j ≠ i := fun e => hne e.symm
  go_simp
theorem cell_put {w : World} {b i : Nat} {u x : Value} (h : w.cell? ⟨b, i, none⟩ = some x) : (w.setCell ⟨b, i, none⟩ u).cell? ⟨b, i, none⟩ = some u := by
  go_simp
theorem frozen_set {w : World} {b i j : Nat} {u : Value} (h : w.frozen? ⟨b, i, none⟩ = false) : (w.setCell ⟨b, j, none⟩ u).frozen? ⟨b, i, none⟩ = false := by
  go_simp
theorem grown_cell {w w' : World} {row : Option Nat} (h : w.grownBy w' row) {b i : Nat} {x : Value} (hc : w.cell? ⟨b, i, none⟩ = some x) (hne : row ≠ some b) : w'.cell? ⟨b, i, none⟩ = some x :=
  h.cell hc (fun e => hne e.symm)
theorem grown_frozen {w w' : World} {row : Option Nat} (h : w.grownBy w' row) {b i : Nat} (hb : b < w.heap.size) (hc : w.frozen? ⟨b, i, none⟩ = false) (hne : row ≠ some b) : w'.frozen? ⟨b, i, none⟩ = false :=
  (World.frozen?_of_block (w := w) (h.block b hb (fun e => hne e.symm))).trans hc
theorem GX.push2 {w w3 : World} {b B : Nat} {v2 v3 v2' : Value} {L2 L3 : List Vec} {x : Vec} (G : GX w b B v2 v3 L2 L3) (hx : OwnD B w (.slice x.a x.D.length x.c) x.D) (g3 : w.grownBy w3 v2.ownBlock) (o3 : OwnV B w3 v2' (L2 ++ [x])) (n3 : v2'.ownBlock = v2.ownBlock ∨ ∃ k, v2'.ownBlock = some k ∧ w.heap.size ≤ k) :
    GX (w3.setCell ⟨b, 2, none⟩ v2') b B v2' v3 (L2 ++ [x]) L3 := by
  have hlt : b < w.heap.size := Nat.lt_of_lt_of_le G.lt G.ltB
  have hrow : v2.ownBlock ≠ some b := fun e => by have := (G.o2.blk b e).1; have := G.lt; omega
  have ob : (⟨b, 2, none⟩ : Addr).block < B := G.lt
  refine ⟨G.lt, by simpa [World.setCell] using Nat.le_trans G.ltB g3.size, cell_set (grown_cell g3 G.c0 hrow) (by omega), cell_set (grown_cell g3 G.c4 hrow) (by omega), cell_set (grown_cell g3 G.c6 hrow) (by omega), cell_set (grown_cell g3 G.c8 hrow) (by omega), cell_put (grown_cell g3 G.c2 hrow), cell_set (grown_cell g3 G.c3 hrow) (by omega),
    frozen_set (grown_frozen g3 hlt G.f2 hrow), frozen_set (grown_frozen g3 hlt G.f3 hrow), o3.low_set ob _, (OwnV.grownV (B' := 0) (L' := []) G.o3 g3 (fun k e e' => G.ne k e' e)).low_set ob _, ?_, fun y hy => ?_, fun y hy => ((G.d3 y hy).grownV G.o2 g3).low_set ob _⟩
  · intro k e e'
    rcases n3 with n3 | ⟨k', hk, hk2⟩
    · exact G.ne k (n3.symm.trans e) e'
    · rw [hk] at e
      cases e
      have := (G.o3.blk k e').2
      omega
  · rcases List.mem_append.1 hy with hy | hy
    · exact ((G.d2 y hy).grownV G.o2 g3).low_set ob _
    · simp at hy
      subst hy
      exact (hx.grownV G.o2 g3).low_set ob _
theorem GX.push3 {w w3 : World} {b B : Nat} {v2 v3 v3' : Value} {L2 L3 : List Vec} {x : Vec} (G : GX w b B v2 v3 L2 L3) (hx : OwnD B w (.slice x.a x.D.length x.c) x.D) (g3 : w.grownBy w3 v3.ownBlock) (o3 : OwnV B w3 v3' (L3 ++ [x])) (n3 : v3'.ownBlock = v3.ownBlock ∨ ∃ k, v3'.ownBlock = some k ∧ w.heap.size ≤ k) :
    GX (w3.setCell ⟨b, 3, none⟩ v3') b B v2 v3' L2 (L3 ++ [x]) := by
  have hlt : b < w.heap.size := Nat.lt_of_lt_of_le G.lt G.ltB
  have hrow : v3.ownBlock ≠ some b := fun e => by have := (G.o3.blk b e).1; have := G.lt; omega
  have ob : (⟨b, 3, none⟩ : Addr).block < B := G.lt
  refine ⟨G.lt, by simpa [World.setCell] using Nat.le_trans G.ltB g3.size, cell_set (grown_cell g3 G.c0 hrow) (by omega), cell_set (grown_cell g3 G.c4 hrow) (by omega), cell_set (grown_cell g3 G.c6 hrow) (by omega), cell_set (grown_cell g3 G.c8 hrow) (by omega), cell_set (grown_cell g3 G.c2 hrow) (by omega), cell_put (grown_cell g3 G.c3 hrow),
    frozen_set (grown_frozen g3 hlt G.f2 hrow), frozen_set (grown_frozen g3 hlt G.f3 hrow), (OwnV.grownV (B' := 0) (L' := []) G.o2 g3 (fun k e e' => G.ne k e e')).low_set ob _, o3.low_set ob _, ?_, fun y hy => ((G.d2 y hy).grownV G.o3 g3).low_set ob _, fun y hy => ?_⟩
  · intro k e e'
    rcases n3 with n3 | ⟨k', hk, hk2⟩
    · exact G.ne k e (n3.symm.trans e')
    · rw [hk] at e'
      cases e'
      have := (G.o2.blk k e).2
      omega
  · rcases List.mem_append.1 hy with hy | hy
    · exact ((G.d3 y hy).grownV G.o3 g3).low_set ob _
    · simp at hy
      subst hy
      exact (hx.grownV G.o3 g3).low_set ob _
theorem upd_grown {w w' : World} {row : Option Nat} (h : w.grownBy w' row) {S : Nat → Prop} (hs : ∀ k, row = some k → S k) : Upd S w w' :=
  ⟨h.os, h.tape, h.output, h.size, fun k hk hn => h.block k hk (fun e => hn (hs k e.symm))⟩
theorem dcs_prefix {w : World} {g n c k : Nat} {B : Nat} {D E : List (Int × Int)} (h : OwnD B w (.slice (some ⟨g, 0, none⟩) k c) (D ++ E)) (hn : D.length = n) : SlN w (some ⟨g, 0, none⟩) n c D := by
  obtain ⟨a, c', e, h1, h2, h3, h4⟩ := h.form
  injection e with e1 e2 e3
  subst e1 e3
  obtain ⟨g', e, hB, hlt⟩ := h4 _ rfl
  refine ⟨hn, rfl, ?_, h2, (fun e => by cases e), fun x hx => ?_⟩
  · rw [List.length_append] at h1; omega
  · cases hx
    refine .inr ⟨g, 0, rfl, by cases e; exact hlt, fun i d hd => ?_⟩
    rw [Nat.zero_add]
    refine h.cell i d ?_
    rw [List.getElem?_append_left (List.getElem?_eq_some_iff.1 hd).1]
    exact hd

set_option maxRecDepth 100000 in
set_option maxHeartbeats 2000000 in
theorem given_vec (b B : Nat) (v2 v3 : Value) (L2 L3 : List Vec) (a : Option Addr) (n c : Nat) (D : List (Int × Int)) (w : World) (G : GX w b B v2 v3 L2 L3) (h : SlN w a n c D) (hm : n * 16 ≤ 140737488351232) (hP : (L2.length + 1) * 24 ≤ 140737488355328) (hP3 : L3.length = L2.length) :
    Calls Try.prog 10 #[.pointer (some ⟨b, 0, none⟩), .slice a n c] w fun e w' => ∃ g c' v2' v3' g5 k5, e = .returned (.slice (some ⟨g, 0, none⟩) n c') ∧ SlN w' (some ⟨g, 0, none⟩) n c' D ∧ w.heap.size ≤ g ∧ GX w' b B v2' v3' (L2 ++ [⟨some ⟨g, 0, none⟩, c', D ++ [(77, 88)]⟩]) (L3 ++ [⟨some ⟨g5, 0, none⟩, k5, D ++ [(77, 88)]⟩]) ∧ Upd (fun k => k = b ∨ v2.ownBlock = some k ∨ v3.ownBlock = some k) w w' ∧ (v2'.ownBlock = v2.ownBlock ∨ ∃ k, v2'.ownBlock = some k ∧ w.heap.size ≤ k) ∧ (v3'.ownBlock = v3.ownBlock ∨ ∃ k, v3'.ownBlock = some k ∧ w.heap.size ≤ k) := by
  have HD := hide h.1
  have HS := hide h
  have hbw : b < w.heap.size := Nat.lt_of_lt_of_le G.lt G.ltB
  have HG := hide G
  clear h G
  go_enter Try.func10, Try.ntmps10
  go_wp2_with fail
  refine (copyvec_any a n c D w HS.out (by omega)).mono ?_
  rintro e w1 ⟨v1, rfl, o1, b1⟩
  have z1 := b1.size
  go_wp2_with (at_builtin; go_must (refine app_draw _ rfl (.tmp 7) (.tmp 9) rfl w.heap.size D v1 rfl ⟨w1.heap.size, 0, none⟩ rfl 77 88 (by simp) (by simp [Addr.add]) (o1.alloc _) (by simp; omega) (by rw [HD.out]; omega) ?_))
  intro v5 w2 o2 n2 g2
  have b2 : Below w.heap.size w w2 := (o1.alloc _).grown (b1.alloc z1 _) g2 (by simp; omega)
  have z2 := b2.size
  obtain ⟨a5, k, hv, k1, k2, k3, k4⟩ := o2.form
  obtain ⟨g, rfl⟩ : ∃ g, a5 = some ⟨g, 0, none⟩ := by
    cases a5 with
    | none => exact absurd (k3 rfl).1 (by simp)
    | some z => obtain ⟨g, rfl, _⟩ := k4 z rfl; exact ⟨g, rfl⟩
  obtain ⟨g', eg, hgB, hgs⟩ := k4 _ rfl
  cases eg
  have HLN : Hid ((D ++ [(77, 88)]).length = n + 1) := by show _ = _; rw [List.length_append, HD.out]; rfl
  rw [HLN.out] at hv k1
  subst hv
  have X2 := hide (o2.low (Nat.le_trans HG.out.ltB (Nat.le_refl _)))
  have G2 := hide (HG.out.bel b2)
  clear o1 b1 g2 n2 k3 k4 o2 z1
  have d2 := G2.out.c2
  have hb2 : b < w2.heap.size := by omega
  have y2 : ∀ ob, (w2.alloc ob).cell? ⟨b, 2, none⟩ = some v2 := fun ob => (World.cell?_alloc_past _ _ _ hb2).trans d2
  have ba : Below w2.heap.size w2 (w2.alloc (.cells #[.slice (some ⟨g, 0, none⟩) (n + 1) k] 23)) := (Below.refl _ _).alloc (Nat.le_refl _) _
  have GA := hide (G2.out.bel ba)
  have XA : Hid (OwnD B (w2.alloc (.cells #[.slice (some ⟨g, 0, none⟩) (n + 1) k] 23)) (.slice (some ⟨g, 0, none⟩) (D ++ [(77, 88)]).length k) (D ++ [(77, 88)])) := by
    show OwnD _ _ _ _
    rw [HLN.out]
    exact X2.out.bel ba (Nat.le_refl _)
  have UA : Upd (fun k => k = b ∨ v2.ownBlock = some k ∨ v3.ownBlock = some k) w (w2.alloc (.cells #[.slice (some ⟨g, 0, none⟩) (n + 1) k] 23)) := (Upd.of_below b2).trans (Upd.of_below ba)
  have UH := hide UA
  clear UA ba
  go_wp2_with (at_builtin; go_must (refine app_new _ rfl (.tmp 15) (.tmp 17) rfl B L2 v2 rfl ⟨w2.heap.size, 0, none⟩ rfl ⟨some ⟨g, 0, none⟩, k, D ++ [(77, 88)]⟩ (by simp [HD.out]) GA.out.o2 (by have := HG.out.ltB; simp; omega) hP ?_))
  intro v2' w3 o3 g3 n3
  have zc := grown_cell g3 GA.out.c2 (fun e => by have := (GA.out.o2.blk b e).1; have := HG.out.lt; omega)
  have zf := grown_frozen g3 (by simp; omega) GA.out.f2 (fun e => by have := (GA.out.o2.blk b e).1; have := HG.out.lt; omega)
  have G4 := hide (GX.push2 (x := ⟨some ⟨g, 0, none⟩, k, D ++ [(77, 88)]⟩) GA.out XA.out g3 o3 (n3.imp id (fun ⟨k', h1, h2⟩ => ⟨k', h1, by simpa using h2⟩)))
  obtain ⟨r2, q2, hv2, _⟩ := o3.form (by simp)
  have U4 : Hid (Upd (fun k => k = b ∨ v2.ownBlock = some k ∨ v3.ownBlock = some k) w (w3.setCell ⟨b, 2, none⟩ v2')) := (UH.out.trans (upd_grown g3 (fun k e => .inr (.inl e)))).setCell (.inl (.inl rfl)) _
  have N2 : Hid (v2'.ownBlock = v2.ownBlock ∨ ∃ k, v2'.ownBlock = some k ∧ w.heap.size ≤ k) := n3.imp id (fun ⟨k', h1, h2⟩ => ⟨k', h1, by omega⟩)
  clear GA XA UH G2 X2 y2 d2 o3 g3 n3 HS
  generalize (L2 ++ [(⟨some ⟨g, 0, none⟩, k, D ++ [(77, 88)]⟩ : Vec)]).length = l2 at hv2
  subst hv2
  go_wp2_with fail
  clear zc zf
  generalize w3.setCell ⟨b, 2, none⟩ (.slice (some ⟨r2, 0, none⟩) l2 q2) = W at *
  have j3 := G4.out.c3
  have jz : b < W.heap.size := Nat.lt_of_lt_of_le G4.out.lt G4.out.ltB
  have XW : Hid (SlN W (some ⟨g, 0, none⟩) (n + 1) k (D ++ [(77, 88)])) := by
    have := (G4.out.d2 ⟨some ⟨g, 0, none⟩, k, D ++ [(77, 88)]⟩ (by simp)).sln
    simp only [HLN.out] at this
    exact this
  have LT3 : Hid ((L3.length + 1) * 24 ≤ 140737488355328) := by show _; rw [hP3]; exact hP
  go_region_law (first
    | (refine step_new rfl (.tmp 25) (.tmp 28) rfl B L3 v3 rfl ⟨w5.heap.size, 0, none⟩ rfl ⟨some ⟨g5, 0, none⟩, k5, D ++ [(77, 88)]⟩ (by simp [HD.out]) GB.out.o3 GB.out.ltB LT3.out ?_; intro v6 w6 o6 g6 n6; have qc := grown_cell g6 GB.out.c3 (fun e => by have := (GB.out.o3.blk b e).1; have := GB.out.lt; omega); have qf := grown_frozen g6 (by have := GB.out.lt; have := GB.out.ltB; omega) GB.out.f3 (fun e => by have := (GB.out.o3.blk b e).1; have := GB.out.lt; omega); obtain ⟨r3, q3, hv3, _⟩ := o6.form (by simp); have G7 := hide (GX.push3 (x := ⟨some ⟨g5, 0, none⟩, k5, D ++ [(77, 88)]⟩) GB.out X5.out g6 o6 n6); have N3 : Hid (v6.ownBlock = v3.ownBlock ∨ ∃ k, v6.ownBlock = some k ∧ w.heap.size ≤ k) := n6.imp id (fun ⟨k', h1, h2⟩ => ⟨k', h1, Nat.le_trans UB.out.size h2⟩); have U7 := hide ((UB.out.trans (upd_grown g6 (fun k e => .inr (.inr e)))).setCell (p := ⟨b, 3, none⟩) (.inl (.inl rfl)) v6); generalize (L3 ++ [(⟨some ⟨g5, 0, none⟩, k5, D ++ [(77, 88)]⟩ : Vec)]).length = l3 at hv3; subst hv3)
    | (refine step_copyvec rfl (.tmp 26) rfl (some ⟨g, 0, none⟩) (n + 1) k rfl (D ++ [(77, 88)]) (XW.out.bel (Below.refl _ _).drew) (by omega) ?_; intro v5 w5 o5 b5; have s1 : w5.cell? ⟨b, 3, none⟩ = some v3 := (b5.cell (p := ⟨b, 3, none⟩) jz).trans j3; have hz5 : b < w5.heap.size := Nat.lt_of_lt_of_le jz b5.size; have s2 : ∀ x, (w5.alloc x).cell? ⟨b, 3, none⟩ = some v3 := (fun x => (World.cell?_alloc_past _ _ _ hz5).trans s1); obtain ⟨a5, k5, hv5, _, _, kn, kg⟩ := o5.form; obtain ⟨g5, ha5⟩ : ∃ g5, a5 = some ⟨g5, 0, none⟩ := (by cases a5 with | none => exact absurd (kn rfl).1 (by simp) | some z => obtain ⟨g5, hz, _⟩ := kg z rfl; exact ⟨g5, by rw [hz]⟩); subst ha5; rw [HLN.out] at hv5; subst hv5; have b5' : Below W.heap.size W w5 := (Below.refl _ _).drew.trans b5; have ba5 : Below w5.heap.size w5 (w5.alloc (.cells #[.slice (some ⟨g5, 0, none⟩) (n + 1) k5] 23)) := (Below.refl _ _).alloc (Nat.le_refl _) _; have GB := hide ((G4.out.bel b5').bel ba5); have X5 : Hid (OwnD B (w5.alloc (.cells #[.slice (some ⟨g5, 0, none⟩) (n + 1) k5] 23)) (.slice (some ⟨g5, 0, none⟩) (D ++ [(77, 88)]).length k5) (D ++ [(77, 88)])) := (by show OwnD _ _ _ _; rw [HLN.out]; exact (o5.low G4.out.ltB).bel ba5 (Nat.le_refl _)); have UB := hide ((U4.out.trans (Upd.of_below b5')).trans (Upd.of_below ba5)); clear o5 b5 ba5 kn kg))
  all_goals
    clear n6 o6 g6 qc qf UB X5 GB s2 s1 b5' LT3 XW j3 U4 G4 HG
    generalize w6.setCell ⟨b, 3, none⟩ (.slice (some ⟨r3, 0, none⟩) l3 q3) = W7 at *
    have PX : Hid (SlN W7 (some ⟨g, 0, none⟩) n k D) := dcs_prefix (G7.out.d2 ⟨some ⟨g, 0, none⟩, k, D ++ [(77, 88)]⟩ (by simp)) HD.out
    unfold maxLen at k2
    go_wp2
    go_ret
    exact ⟨g, k, _, _, g5, k5, rfl, PX.out, hgB, G7.out, U7.out, N2.out, N3.out⟩

end Go.Proofs.Ytcchnaldanibgaa
