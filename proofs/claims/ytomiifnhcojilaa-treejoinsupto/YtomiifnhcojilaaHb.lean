import Derived.Test.YtomiifnhcojilaaHa
namespace Go.Proofs.Ytomiifnhcojilaa
open Go.RowKit Go.Maps
open Classical
set_option linter.unusedVariables false
set_option linter.unusedSimpArgs false

/-- A Given at block b that keeps vectors (cells 2 and 3) and logs (cells 4 and 5). -/
structure GM (w : World) (b B : Nat) (v2 v3 v4 v5 : Value) (Da Db : List (SV (Int × Int))) (La Lb : List (SV En)) : Prop where
  lt : b < B
  ltB : B ≤ w.heap.size
  c2 : w.cell? ⟨b, 2, none⟩ = some v2
  c3 : w.cell? ⟨b, 3, none⟩ = some v3
  c4 : w.cell? ⟨b, 4, none⟩ = some v4
  c5 : w.cell? ⟨b, 5, none⟩ = some v5
  f : ∀ i, w.frozen? ⟨b, i, none⟩ = false
  ce : ∀ i, i < 10 → (i < 2 ∨ 5 < i) → w.cell? ⟨b, i, none⟩ = some (.slice none 0 0)
  o2 : OwnY zD B w v2 Da
  o3 : OwnY zD B w v3 Db
  o4 : OwnY zE B w v4 La
  o5 : OwnY zE B w v5 Lb
  ne2 : ∀ k, v2.ownBlock = some k → v3.ownBlock = some k → False
  ne4 : ∀ k, v4.ownBlock = some k → v5.ownBlock = some k → False
  m2 : ∀ x, x ∈ Da → OwnY yD B w x.v x.D
  m3 : ∀ x, x ∈ Db → OwnY yD B w x.v x.D
  m4 : ∀ x, x ∈ La → OwnY yE B w x.v x.D
  m5 : ∀ x, x ∈ Lb → OwnY yE B w x.v x.D
theorem GM.bel {w w' : World} {b B : Nat} {v2 v3 v4 v5 : Value} {Da Db : List (SV (Int × Int))} {La Lb : List (SV En)} (h : GM w b B v2 v3 v4 v5 Da Db La Lb) (hb : Below w.heap.size w w') : GM w' b B v2 v3 v4 v5 Da Db La Lb := by
  have hlt : b < w.heap.size := Nat.lt_of_lt_of_le h.lt h.ltB
  exact ⟨h.lt, Nat.le_trans h.ltB hb.size, (hb.cell (p := ⟨b, _, none⟩) hlt).trans h.c2, (hb.cell (p := ⟨b, _, none⟩) hlt).trans h.c3, (hb.cell (p := ⟨b, _, none⟩) hlt).trans h.c4, (hb.cell (p := ⟨b, _, none⟩) hlt).trans h.c5, fun i => (hb.frozen (p := ⟨b, _, none⟩) hlt).trans (h.f i), fun i h0 h1 => (hb.cell (p := ⟨b, _, none⟩) hlt).trans (h.ce i h0 h1), h.o2.grow hb, h.o3.grow hb, h.o4.grow hb, h.o5.grow hb, h.ne2, h.ne4, fun x hx => (h.m2 x hx).grow hb, fun x hx => (h.m3 x hx).grow hb, fun x hx => (h.m4 x hx).grow hb, fun x hx => (h.m5 x hx).grow hb⟩
/-- A new Given. -/
theorem GM.new (w : World) (t : TypeId) : GM (w.alloc (.cells #[.slice none 0 0, .slice none 0 0, .slice none 0 0, .slice none 0 0, .slice none 0 0, .slice none 0 0, .slice none 0 0, .slice none 0 0, .slice none 0 0, .slice none 0 0] t)) w.heap.size (w.heap.size + 1) (.slice none 0 0) (.slice none 0 0) (.slice none 0 0) (.slice none 0 0) [] [] [] [] := by
  have hc : ∀ i, i < 10 → (w.alloc (.cells #[.slice none 0 0, .slice none 0 0, .slice none 0 0, .slice none 0 0, .slice none 0 0, .slice none 0 0, .slice none 0 0, .slice none 0 0, .slice none 0 0, .slice none 0 0] t)).cell? ⟨w.heap.size, i, none⟩ = some (.slice none 0 0) := by
    intro i hi
    rw [World.cell?_alloc_at _ _ _ _ rfl]
    rcases (by omega : i = 0 ∨ i = 1 ∨ i = 2 ∨ i = 3 ∨ i = 4 ∨ i = 5 ∨ i = 6 ∨ i = 7 ∨ i = 8 ∨ i = 9) with rfl | rfl | rfl | rfl | rfl | rfl | rfl | rfl | rfl | rfl <;> rfl
  exact ⟨Nat.lt_succ_self _, by simp, hc 2 (by omega), hc 3 (by omega), hc 4 (by omega), hc 5 (by omega), fun i => by simp, fun i h0 _ => hc i h0, OwnY.nil _ _ _, OwnY.nil _ _ _, OwnY.nil _ _ _, OwnY.nil _ _ _, (fun k h => by cases h), (fun k h => by cases h), (fun p hp => by cases hp), (fun p hp => by cases hp), (fun p hp => by cases hp), (fun p hp => by cases hp)⟩
theorem GM.pushDa {w w3 : World} {b B : Nat} {v2 v3 v4 v5 v' : Value} {Da Db : List (SV (Int × Int))} {La Lb : List (SV En)} {x : SV (Int × Int)} (G : GM w b B v2 v3 v4 v5 Da Db La Lb) (hx : OwnY yD B w x.v x.D) (g3 : w.grownBy w3 v2.ownBlock) (o3 : OwnY zD B w3 v' (Da ++ [x])) (n3 : v'.ownBlock = v2.ownBlock ∨ ∃ k, v'.ownBlock = some k ∧ w.heap.size ≤ k) :
    GM (w3.setCell ⟨b, 2, none⟩ v') b B v' v3 v4 v5 (Da ++ [x]) Db La Lb := by
  have hlt : b < w.heap.size := Nat.lt_of_lt_of_le G.lt G.ltB
  have hrow : v2.ownBlock ≠ some b := fun e => by have := (G.o2.blk b e).1; have := G.lt; omega
  have ob : (⟨b, 2, none⟩ : Addr).block < B := G.lt
  refine ⟨G.lt, by simpa [World.setCell] using Nat.le_trans G.ltB g3.size, setc_eq (gcell g3 G.c2 hrow), setc_ne (gcell g3 G.c3 hrow) (by omega), setc_ne (gcell g3 G.c4 hrow) (by omega), setc_ne (gcell g3 G.c5 hrow) (by omega), fun i => setf (gfroz g3 hlt (G.f i) hrow), fun i h0 h1 => setc_ne (gcell g3 (G.ce i h0 h1) hrow) (by omega), o3.low_set ob _, (OwnY.grownN G.o3 g3 (fun k e e' => G.ne2 k e' e)).low_set ob _, (OwnY.grownZ G.o4 G.o2 hzz.symm g3).low_set ob _, (OwnY.grownZ G.o5 G.o2 hzz.symm g3).low_set ob _, ?_, G.ne4, ?_, fun y hy => ((G.m3 y hy).grownZ G.o2 hTD g3).low_set ob _, fun y hy => ((G.m4 y hy).grownZ G.o2 hED g3).low_set ob _, fun y hy => ((G.m5 y hy).grownZ G.o2 hED g3).low_set ob _⟩
  · intro k e e'
    rcases n3 with n3 | ⟨k', hk, hk2⟩
    · exact G.ne2 k (n3.symm.trans e) e'
    · rw [hk] at e
      cases e
      have := (G.o3.blk k e').2
      omega
  · intro y hy
    rcases List.mem_append.1 hy with hy | hy
    · exact ((G.m2 y hy).grownZ G.o2 hTD g3).low_set ob _
    · simp at hy
      subst hy
      exact (hx.grownZ G.o2 hTD g3).low_set ob _
theorem GM.pushDb {w w3 : World} {b B : Nat} {v2 v3 v4 v5 v' : Value} {Da Db : List (SV (Int × Int))} {La Lb : List (SV En)} {x : SV (Int × Int)} (G : GM w b B v2 v3 v4 v5 Da Db La Lb) (hx : OwnY yD B w x.v x.D) (g3 : w.grownBy w3 v3.ownBlock) (o3 : OwnY zD B w3 v' (Db ++ [x])) (n3 : v'.ownBlock = v3.ownBlock ∨ ∃ k, v'.ownBlock = some k ∧ w.heap.size ≤ k) :
    GM (w3.setCell ⟨b, 3, none⟩ v') b B v2 v' v4 v5 Da (Db ++ [x]) La Lb := by
  have hlt : b < w.heap.size := Nat.lt_of_lt_of_le G.lt G.ltB
  have hrow : v3.ownBlock ≠ some b := fun e => by have := (G.o3.blk b e).1; have := G.lt; omega
  have ob : (⟨b, 3, none⟩ : Addr).block < B := G.lt
  refine ⟨G.lt, by simpa [World.setCell] using Nat.le_trans G.ltB g3.size, setc_ne (gcell g3 G.c2 hrow) (by omega), setc_eq (gcell g3 G.c3 hrow), setc_ne (gcell g3 G.c4 hrow) (by omega), setc_ne (gcell g3 G.c5 hrow) (by omega), fun i => setf (gfroz g3 hlt (G.f i) hrow), fun i h0 h1 => setc_ne (gcell g3 (G.ce i h0 h1) hrow) (by omega), (OwnY.grownN G.o2 g3 (fun k e e' => G.ne2 k e e')).low_set ob _, o3.low_set ob _, (OwnY.grownZ G.o4 G.o3 hzz.symm g3).low_set ob _, (OwnY.grownZ G.o5 G.o3 hzz.symm g3).low_set ob _, ?_, G.ne4, fun y hy => ((G.m2 y hy).grownZ G.o3 hTD g3).low_set ob _, ?_, fun y hy => ((G.m4 y hy).grownZ G.o3 hED g3).low_set ob _, fun y hy => ((G.m5 y hy).grownZ G.o3 hED g3).low_set ob _⟩
  · intro k e e'
    rcases n3 with n3 | ⟨k', hk, hk2⟩
    · exact G.ne2 k e (n3.symm.trans e')
    · rw [hk] at e'
      cases e'
      have := (G.o2.blk k e).2
      omega
  · intro y hy
    rcases List.mem_append.1 hy with hy | hy
    · exact ((G.m3 y hy).grownZ G.o3 hTD g3).low_set ob _
    · simp at hy
      subst hy
      exact (hx.grownZ G.o3 hTD g3).low_set ob _
theorem GM.pushLa {w w3 : World} {b B : Nat} {v2 v3 v4 v5 v' : Value} {Da Db : List (SV (Int × Int))} {La Lb : List (SV En)} {x : SV En} (G : GM w b B v2 v3 v4 v5 Da Db La Lb) (hx : OwnY yE B w x.v x.D) (g3 : w.grownBy w3 v4.ownBlock) (o3 : OwnY zE B w3 v' (La ++ [x])) (n3 : v'.ownBlock = v4.ownBlock ∨ ∃ k, v'.ownBlock = some k ∧ w.heap.size ≤ k) :
    GM (w3.setCell ⟨b, 4, none⟩ v') b B v2 v3 v' v5 Da Db (La ++ [x]) Lb := by
  have hlt : b < w.heap.size := Nat.lt_of_lt_of_le G.lt G.ltB
  have hrow : v4.ownBlock ≠ some b := fun e => by have := (G.o4.blk b e).1; have := G.lt; omega
  have ob : (⟨b, 4, none⟩ : Addr).block < B := G.lt
  refine ⟨G.lt, by simpa [World.setCell] using Nat.le_trans G.ltB g3.size, setc_ne (gcell g3 G.c2 hrow) (by omega), setc_ne (gcell g3 G.c3 hrow) (by omega), setc_eq (gcell g3 G.c4 hrow), setc_ne (gcell g3 G.c5 hrow) (by omega), fun i => setf (gfroz g3 hlt (G.f i) hrow), fun i h0 h1 => setc_ne (gcell g3 (G.ce i h0 h1) hrow) (by omega), (OwnY.grownZ G.o2 G.o4 hzz g3).low_set ob _, (OwnY.grownZ G.o3 G.o4 hzz g3).low_set ob _, o3.low_set ob _, (OwnY.grownN G.o5 g3 (fun k e e' => G.ne4 k e' e)).low_set ob _, G.ne2, ?_, fun y hy => ((G.m2 y hy).grownZ G.o4 hDE g3).low_set ob _, fun y hy => ((G.m3 y hy).grownZ G.o4 hDE g3).low_set ob _, ?_, fun y hy => ((G.m5 y hy).grownZ G.o4 hTE g3).low_set ob _⟩
  · intro k e e'
    rcases n3 with n3 | ⟨k', hk, hk2⟩
    · exact G.ne4 k (n3.symm.trans e) e'
    · rw [hk] at e
      cases e
      have := (G.o5.blk k e').2
      omega
  · intro y hy
    rcases List.mem_append.1 hy with hy | hy
    · exact ((G.m4 y hy).grownZ G.o4 hTE g3).low_set ob _
    · simp at hy
      subst hy
      exact (hx.grownZ G.o4 hTE g3).low_set ob _
theorem GM.pushLb {w w3 : World} {b B : Nat} {v2 v3 v4 v5 v' : Value} {Da Db : List (SV (Int × Int))} {La Lb : List (SV En)} {x : SV En} (G : GM w b B v2 v3 v4 v5 Da Db La Lb) (hx : OwnY yE B w x.v x.D) (g3 : w.grownBy w3 v5.ownBlock) (o3 : OwnY zE B w3 v' (Lb ++ [x])) (n3 : v'.ownBlock = v5.ownBlock ∨ ∃ k, v'.ownBlock = some k ∧ w.heap.size ≤ k) :
    GM (w3.setCell ⟨b, 5, none⟩ v') b B v2 v3 v4 v' Da Db La (Lb ++ [x]) := by
  have hlt : b < w.heap.size := Nat.lt_of_lt_of_le G.lt G.ltB
  have hrow : v5.ownBlock ≠ some b := fun e => by have := (G.o5.blk b e).1; have := G.lt; omega
  have ob : (⟨b, 5, none⟩ : Addr).block < B := G.lt
  refine ⟨G.lt, by simpa [World.setCell] using Nat.le_trans G.ltB g3.size, setc_ne (gcell g3 G.c2 hrow) (by omega), setc_ne (gcell g3 G.c3 hrow) (by omega), setc_ne (gcell g3 G.c4 hrow) (by omega), setc_eq (gcell g3 G.c5 hrow), fun i => setf (gfroz g3 hlt (G.f i) hrow), fun i h0 h1 => setc_ne (gcell g3 (G.ce i h0 h1) hrow) (by omega), (OwnY.grownZ G.o2 G.o5 hzz g3).low_set ob _, (OwnY.grownZ G.o3 G.o5 hzz g3).low_set ob _, (OwnY.grownN G.o4 g3 (fun k e e' => G.ne4 k e e')).low_set ob _, o3.low_set ob _, G.ne2, ?_, fun y hy => ((G.m2 y hy).grownZ G.o5 hDE g3).low_set ob _, fun y hy => ((G.m3 y hy).grownZ G.o5 hDE g3).low_set ob _, fun y hy => ((G.m4 y hy).grownZ G.o5 hTE g3).low_set ob _, ?_⟩
  · intro k e e'
    rcases n3 with n3 | ⟨k', hk, hk2⟩
    · exact G.ne4 k e (n3.symm.trans e')
    · rw [hk] at e'
      cases e'
      have := (G.o4.blk k e).2
      omega
  · intro y hy
    rcases List.mem_append.1 hy with hy | hy
    · exact ((G.m5 y hy).grownZ G.o5 hTE g3).low_set ob _
    · simp at hy
      subst hy
      exact (hx.grownZ G.o5 hTE g3).low_set ob _
set_option maxRecDepth 100000 in
set_option maxHeartbeats 2000000 in
theorem given_entM (b B : Nat) (v2 v3 va vb : Value) (Da Db : List (SV (Int × Int))) (La Lb : List (SV En)) (a : Option Addr) (n c : Nat) (D : List En) (w : World) (G : GM w b B v2 v3 va vb Da Db La Lb) (h : SlY yE w a n c D) (hm : n * 48 ≤ 140737488351232) (hP : (La.length + 1) * 24 ≤ 140737488355328) (hP3 : Lb.length = La.length) :
    Calls Try.prog 12 #[.pointer (some ⟨b, 0, none⟩), .slice a n c] w fun e w' => ∃ g c' va' vb' g5 k5, e = .returned (.slice (some ⟨g, 0, none⟩) n c') ∧ SlY yE w' (some ⟨g, 0, none⟩) n c' D ∧ w.heap.size ≤ g ∧ GM w' b B v2 v3 va' vb' Da Db (La ++ [⟨some ⟨g, 0, none⟩, c', D ++ [mkE]⟩]) (Lb ++ [⟨some ⟨g5, 0, none⟩, k5, D ++ [mkE]⟩]) ∧ Upd (fun k => k = b ∨ va.ownBlock = some k ∨ vb.ownBlock = some k) w w' ∧ (va'.ownBlock = va.ownBlock ∨ ∃ k, va'.ownBlock = some k ∧ w.heap.size ≤ k) ∧ (vb'.ownBlock = vb.ownBlock ∨ ∃ k, vb'.ownBlock = some k ∧ w.heap.size ≤ k) := by
  have HD := hide h.len
  have HS := hide h
  have hbw : b < w.heap.size := Nat.lt_of_lt_of_le G.lt G.ltB
  have HG := hide G
  clear h G
  go_enter Try.func12, Try.ntmps12
  go_wp2_with fail
  refine (copyent_any a n c D w HS.out (by omega)).mono ?_
  rintro e w1 ⟨v1, rfl, o1, b1⟩
  have z1 := b1.size
  have SB := hide (sl_box (Y := yE) w1 mkE 28)
  go_wp2_with (at_builtin; go_must (refine appY kE _ rfl (.tmp 7) (.tmp 9) rfl w.heap.size D v1 rfl (some ⟨w1.heap.size, 0, none⟩) 1 1 rfl [mkE] SB.out (o1.alloc _) (by simp; omega) (by rw [HD.out]; unfold maxLen; omega) (by show (_ + 1) * 48 ≤ _; rw [HD.out]; omega) ?_))
  intro v5 w2 o2 g2 _
  have b2 : Below w.heap.size w w2 := (o1.alloc _).grown (b1.alloc z1 _) g2 (by simp; omega)
  have z2 := b2.size
  obtain ⟨a5, k, hv, k1, k2, k3, k4⟩ := o2.form
  obtain ⟨g, rfl⟩ : ∃ g, a5 = some ⟨g, 0, none⟩ := by
    cases a5 with
    | none => exact absurd (k3 rfl).1 (by simp)
    | some z => obtain ⟨g, rfl, _⟩ := k4 z rfl; exact ⟨g, rfl⟩
  obtain ⟨g', eg, hgB, hgs⟩ := k4 _ rfl
  cases eg
  have HLN : Hid ((D ++ [mkE]).length = n + 1) := by show _ = _; rw [List.length_append, HD.out]; rfl
  rw [HLN.out] at hv k1
  subst hv
  have X2 := hide (o2.low (Nat.le_trans HG.out.ltB (Nat.le_refl _)))
  have G2 := hide (HG.out.bel b2)
  clear o1 b1 g2 k3 k4 o2 z1 SB
  have d2 := G2.out.c4
  have hb2 : b < w2.heap.size := by omega
  have y2 : ∀ ob, (w2.alloc ob).cell? ⟨b, 4, none⟩ = some va := fun ob => (World.cell?_alloc_past _ _ _ hb2).trans d2
  have ba : Below w2.heap.size w2 (w2.alloc (.cells #[.slice (some ⟨g, 0, none⟩) (n + 1) k] 22)) := (Below.refl _ _).alloc (Nat.le_refl _) _
  have GA := hide (G2.out.bel ba)
  have XA : Hid (OwnY yE B (w2.alloc (.cells #[.slice (some ⟨g, 0, none⟩) (n + 1) k] 22)) (.slice (some ⟨g, 0, none⟩) (D ++ [mkE]).length k) (D ++ [mkE])) := by
    show OwnY _ _ _ _ _
    rw [HLN.out]
    exact X2.out.grow ba
  have UA : Upd (fun k => k = b ∨ va.ownBlock = some k ∨ vb.ownBlock = some k) w (w2.alloc (.cells #[.slice (some ⟨g, 0, none⟩) (n + 1) k] 22)) := (Upd.of_below b2).trans (Upd.of_below ba)
  have UH := hide UA
  have SB : Hid (SlY zE (w2.alloc (.cells #[.slice (some ⟨g, 0, none⟩) (n + 1) k] 22)) (some ⟨w2.heap.size, 0, none⟩) 1 1 [⟨some ⟨g, 0, none⟩, k, D ++ [mkE]⟩]) := by
    have := sl_box (Y := zE) w2 ⟨some ⟨g, 0, none⟩, k, D ++ [mkE]⟩ 22
    simp only [zE, yS, HLN.out] at this
    exact this
  clear UA ba
  go_wp2_with (at_builtin; go_must (refine appY kzE _ rfl (.tmp 15) (.tmp 17) rfl B La va rfl (some ⟨w2.heap.size, 0, none⟩) 1 1 rfl [⟨some ⟨g, 0, none⟩, k, D ++ [mkE]⟩] SB.out GA.out.o4 (by have := HG.out.ltB; simp; omega) (by unfold maxLen; omega) hP ?_))
  intro va' w3 o3 g3 n3
  have zc := gcell g3 GA.out.c4 (fun e => by have := (GA.out.o4.blk b e).1; have := HG.out.lt; omega)
  have zf := gfroz g3 (by simp; omega) (GA.out.f 4) (fun e => by have := (GA.out.o4.blk b e).1; have := HG.out.lt; omega)
  have G4 := hide (GM.pushLa (x := ⟨some ⟨g, 0, none⟩, k, D ++ [mkE]⟩) GA.out XA.out g3 o3 (n3.imp id (fun ⟨k', h1, h2⟩ => ⟨k', h1, by simpa using h2⟩)))
  obtain ⟨r2, q2, hv2, _⟩ := o3.form
  have U4 : Hid (Upd (fun k => k = b ∨ va.ownBlock = some k ∨ vb.ownBlock = some k) w (w3.setCell ⟨b, 4, none⟩ va')) := (UH.out.trans (gupd g3 (fun k e => .inr (.inl e)))).setCell (.inl (.inl rfl)) _
  have N2 : Hid (va'.ownBlock = va.ownBlock ∨ ∃ k, va'.ownBlock = some k ∧ w.heap.size ≤ k) := n3.imp id (fun ⟨k', h1, h2⟩ => ⟨k', h1, by first | omega | (simp at h2; omega)⟩)
  clear GA XA UH G2 X2 y2 d2 o3 g3 n3 HS SB
  generalize (La ++ [(⟨some ⟨g, 0, none⟩, k, D ++ [mkE]⟩ : SV En)]).length = l2 at hv2
  subst hv2
  go_wp2_with fail
  clear zc zf
  generalize w3.setCell ⟨b, 4, none⟩ (.slice r2 l2 q2) = W at *
  have j3 := G4.out.c5
  have jz : b < W.heap.size := Nat.lt_of_lt_of_le G4.out.lt G4.out.ltB
  have XW : Hid (SlY yE W (some ⟨g, 0, none⟩) (n + 1) k (D ++ [mkE])) := by
    have := (G4.out.m4 ⟨some ⟨g, 0, none⟩, k, D ++ [mkE]⟩ (by simp)).sl' kE
    simp only [HLN.out] at this
    exact this
  have LT3 : Hid ((Lb.length + 1) * 24 ≤ 140737488355328) := by show _ ≤ _; rw [hP3]; exact hP
  go_region_law (first
    | (refine stepY kzE rfl (.tmp 25) (.tmp 28) rfl B Lb vb rfl (some ⟨w5.heap.size, 0, none⟩) 1 1 rfl [⟨some ⟨g5, 0, none⟩, k5, D ++ [mkE]⟩] SB5.out GB.out.o5 GB.out.ltB (by have := LT3.out; unfold maxLen; omega) LT3.out ?_; intro v6 w6 o6 g6 n6; have qc := gcell g6 GB.out.c5 (fun e => by have := (GB.out.o5.blk b e).1; have := GB.out.lt; omega); have qf := gfroz g6 (by have := GB.out.lt; have := GB.out.ltB; omega) (GB.out.f 5) (fun e => by have := (GB.out.o5.blk b e).1; have := GB.out.lt; omega); obtain ⟨r3, q3, hv3, _⟩ := o6.form; have G7 := hide (GM.pushLb (x := ⟨some ⟨g5, 0, none⟩, k5, D ++ [mkE]⟩) GB.out X5.out g6 o6 n6); have N3 : Hid (v6.ownBlock = vb.ownBlock ∨ ∃ k, v6.ownBlock = some k ∧ w.heap.size ≤ k) := n6.imp id (fun ⟨k', h1, h2⟩ => ⟨k', h1, Nat.le_trans UB.out.size h2⟩); have U7 := hide ((UB.out.trans (gupd g6 (fun k e => .inr (.inr e)))).setCell (p := ⟨b, 5, none⟩) (.inl (.inl rfl)) v6); generalize (Lb ++ [(⟨some ⟨g5, 0, none⟩, k5, D ++ [mkE]⟩ : SV En)]).length = l3 at hv3; subst hv3)
    | (refine step_copyent rfl (.tmp 26) rfl (some ⟨g, 0, none⟩) (n + 1) k rfl (D ++ [mkE]) (XW.out.later (Below.refl _ _).drew) (by omega) ?_; intro v5 w5 o5 b5; have s1 : w5.cell? ⟨b, 5, none⟩ = some vb := (b5.cell (p := ⟨b, 5, none⟩) jz).trans j3; have hz5 : b < w5.heap.size := Nat.lt_of_lt_of_le jz b5.size; have s2 : ∀ x, (w5.alloc x).cell? ⟨b, 5, none⟩ = some vb := (fun x => (World.cell?_alloc_past _ _ _ hz5).trans s1); obtain ⟨a5, k5, hv5, _, _, kn, kg⟩ := o5.form; obtain ⟨g5, ha5⟩ : ∃ g5, a5 = some ⟨g5, 0, none⟩ := (by cases a5 with | none => exact absurd (kn rfl).1 (by simp) | some z => obtain ⟨g5, hz, _⟩ := kg z rfl; exact ⟨g5, by rw [hz]⟩); subst ha5; rw [HLN.out] at hv5; subst hv5; have b5' : Below W.heap.size W w5 := (Below.refl _ _).drew.trans b5; have ba5 : Below w5.heap.size w5 (w5.alloc (.cells #[.slice (some ⟨g5, 0, none⟩) (n + 1) k5] 22)) := (Below.refl _ _).alloc (Nat.le_refl _) _; have GB := hide ((G4.out.bel b5').bel ba5); have X5 : Hid (OwnY yE B (w5.alloc (.cells #[.slice (some ⟨g5, 0, none⟩) (n + 1) k5] 22)) (.slice (some ⟨g5, 0, none⟩) (D ++ [mkE]).length k5) (D ++ [mkE])) := (by show OwnY _ _ _ _ _; rw [HLN.out]; exact (o5.low G4.out.ltB).grow ba5); have UB := hide ((U4.out.trans (Upd.of_below b5')).trans (Upd.of_below ba5)); have SB5 : Hid (SlY zE (w5.alloc (.cells #[.slice (some ⟨g5, 0, none⟩) (n + 1) k5] 22)) (some ⟨w5.heap.size, 0, none⟩) 1 1 [⟨some ⟨g5, 0, none⟩, k5, D ++ [mkE]⟩]) := (by have := sl_box (Y := zE) w5 ⟨some ⟨g5, 0, none⟩, k5, D ++ [mkE]⟩ 22; simp only [zE, yS, HLN.out] at this; exact this); clear o5 b5 ba5 kn kg))
  all_goals
    clear n6 o6 g6 qc qf UB X5 GB s2 s1 b5' LT3 XW j3 U4 G4 HG
    generalize w6.setCell ⟨b, 5, none⟩ (.slice r3 l3 q3) = W7 at *
    have PX : Hid (SlY yE W7 (some ⟨g, 0, none⟩) n k D) := (G7.out.m4 ⟨some ⟨g, 0, none⟩, k, D ++ [mkE]⟩ (by simp)).front kE HD.out
    unfold maxLen at k2
    go_wp2
    go_ret
    exact ⟨g, k, _, _, g5, k5, rfl, PX.out, hgB, G7.out, U7.out, N2.out, N3.out⟩
end Go.Proofs.Ytomiifnhcojilaa
