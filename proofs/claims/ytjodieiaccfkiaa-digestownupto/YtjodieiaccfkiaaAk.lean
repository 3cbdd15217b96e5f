import Derived.Test.YtjodieiaccfkiaaAb
namespace Go.Proofs.Ytjodieiaccfkiaa
open Go.RowKit Go.Maps
open Classical
set_option linter.unusedVariables false
set_option linter.unusedSimpArgs false

set_option maxRecDepth 100000 in
theorem copyby_any (a : Option Addr) (n c : Nat) (D : List Int) (w : World) (h : SlY yBy w a n c D) (hb : n * 1 ≤ 140737488355328) :
    Calls Try.prog 25 #[.slice a n c] w fun e w' => ∃ v', e = .returned v' ∧ OwnY yBy w.heap.size w' v' D ∧ Below w.heap.size w w' := by
  have H := hide h
  clear h
  go_enter Try.func25, Try.ntmps25
  go_wp2_with (at_builtin; go_must (refine appY kBy _ rfl (.const (.slice none 0 0)) (.tmp 3) rfl w.heap.size [] _ rfl a n c rfl D H.out (OwnY.nil _ _ _) (Nat.le_refl _) (by unfold maxLen; simp; omega) (by show (0 + n) * 1 ≤ _; omega) ?_))
  intro v' w' h1 h3 _
  have hb : Below w.heap.size w w' := (Below.refl _ _).grown h3 (Nat.le_refl _) (fun k hk => by cases hk)
  go_wp2
  go_ret
  exact ⟨v', rfl, h1, hb⟩
set_option maxRecDepth 100000 in
/-- A call of CopyBytes, in a region that draws its order. -/
theorem step_copyby {ops : Array Oper} {o : Oper} {a : Act} {w : World} {K : Act → World → Prop} {Q : Exit → Act → World → Prop} {E : Prop} (hg : o.guard = none) (x : Operand)
    (ho : o.op = .call { callee := .value (.func 25), args := #[x], argTypes := #[22] }) (ad : Option Addr) (n c : Nat) (hx : a.eval x = .slice ad n c) (D : List Int) (h : SlY yBy w ad n c D) (hm : n * 1 ≤ 140737488355328)
    (hK : ∀ v' w', OwnY yBy w.heap.size w' v' D → Below w.heap.size w w' → K (a.put o.dst v') w') :
    if Region.wanted o (yielded ops a.tmps) = true then Oper.wp Try.prog o a w K Q else E := by
  have hw : Region.wanted o (yielded ops a.tmps) = true := by simp [Region.wanted, hg]
  rw [if_pos hw]
  have hr : (execOp a.eval o).run Try.prog w = .ok (.enter 25 #[.slice ad n c]) w := by
    unfold execOp
    simp only [ho, resolve, invoke, Sem.run_bind, List.map_toArray, List.map_cons, List.map_nil, hx]
    rfl
  unfold Oper.wp
  rw [hr, Oper.upon_enter]
  refine (copyby_any ad n c D w h hm).mono ?_
  rintro e w' ⟨v', rfl, h1, h2⟩
  exact hK v' w' h1 h2
set_option maxRecDepth 100000 in
set_option maxHeartbeats 2000000 in
theorem given_by (E : Nat → Value) (b B : Nat) (va vb : Value) (La Lb : List (SV Int)) (a : Option Addr) (n c : Nat) (D : List Int) (w : World) (G : GY yBy zByB 0 E w b B va vb La Lb) (h : SlY yBy w a n c D) (hm : n * 1 ≤ 140737488351232) (hP : (La.length + 1) * 24 ≤ 140737488355328) (hP3 : Lb.length = La.length) :
    Calls Try.prog 8 #[.pointer (some ⟨b, 0, none⟩), .slice a n c] w fun e w' => ∃ g c' va' vb' g5 k5, e = .returned (.slice (some ⟨g, 0, none⟩) n c') ∧ SlY yBy w' (some ⟨g, 0, none⟩) n c' D ∧ w.heap.size ≤ g ∧ GY yBy zByB 0 E w' b B va' vb' (La ++ [⟨some ⟨g, 0, none⟩, c', D ++ [90]⟩]) (Lb ++ [⟨some ⟨g5, 0, none⟩, k5, D ++ [90]⟩]) ∧ Upd (fun k => k = b ∨ va.ownBlock = some k ∨ vb.ownBlock = some k) w w' ∧ (va'.ownBlock = va.ownBlock ∨ ∃ k, va'.ownBlock = some k ∧ w.heap.size ≤ k) ∧ (vb'.ownBlock = vb.ownBlock ∨ ∃ k, vb'.ownBlock = some k ∧ w.heap.size ≤ k) := by
  have HD := hide h.len
  have HS := hide h
  have hbw : b < w.heap.size := Nat.lt_of_lt_of_le G.lt G.ltB
  have HG := hide G
  clear h G
  go_enter Try.func8, Try.ntmps8
  go_wp2_with fail
  refine (copyby_any a n c D w HS.out (by omega)).mono ?_
  rintro e w1 ⟨v1, rfl, o1, b1⟩
  have z1 := b1.size
  have SB := hide (sl_box (Y := yBy) w1 90 5)
  go_wp2_with (at_builtin; go_must (refine appY kBy _ rfl (.tmp 7) (.tmp 8) rfl w.heap.size D v1 rfl (some ⟨w1.heap.size, 0, none⟩) 1 1 rfl [90] SB.out (o1.alloc _) (by simp; omega) (by rw [HD.out]; unfold maxLen; omega) (by show (_ + 1) * 1 ≤ _; rw [HD.out]; omega) ?_))
  intro v5 w2 o2 g2 _
  have b2 : Below w.heap.size w w2 := (o1.alloc _).grown (b1.alloc z1 _) g2 (by simp; omega)
  have z2 := b2.size
  obtain ⟨a5, k, hv, k1, k2, k3, k4⟩ := o2.form
  obtain ⟨g, rfl⟩ : ∃ g, a5 = some ⟨g, 0, none⟩ := by
    cases a5 with
    | none => exact absurd (k3 rfl).1 (by simp)
    | some z => obtain ⟨g, rfl, _⟩ := k4 z rfl; exact ⟨g, rfl⟩
  obtain ⟨g', eg, hgB, hgs⟩ := k4 _ rfl
  cases eg
  have HLN : Hid ((D ++ [90]).length = n + 1) := by show _ = _; rw [List.length_append, HD.out]; rfl
  rw [HLN.out] at hv k1
  subst hv
  have X2 := hide (o2.low (Nat.le_trans HG.out.ltB (Nat.le_refl _)))
  have G2 := hide (HG.out.bel b2)
  clear o1 b1 g2 k3 k4 o2 z1 SB
  have d2 := G2.out.ca
  have hb2 : b < w2.heap.size := by omega
  have y2 : ∀ ob, (w2.alloc ob).cell? ⟨b, 0, none⟩ = some va := fun ob => (World.cell?_alloc_past _ _ _ hb2).trans d2
  have ba : Below w2.heap.size w2 (w2.alloc (.cells #[.slice (some ⟨g, 0, none⟩) (n + 1) k] 22)) := (Below.refl _ _).alloc (Nat.le_refl _) _
  have GA := hide (G2.out.bel ba)
  have XA : Hid (OwnY yBy B (w2.alloc (.cells #[.slice (some ⟨g, 0, none⟩) (n + 1) k] 22)) (.slice (some ⟨g, 0, none⟩) (D ++ [90]).length k) (D ++ [90])) := by
    show OwnY _ _ _ _ _
    rw [HLN.out]
    exact X2.out.grow ba
  have UA : Upd (fun k => k = b ∨ va.ownBlock = some k ∨ vb.ownBlock = some k) w (w2.alloc (.cells #[.slice (some ⟨g, 0, none⟩) (n + 1) k] 22)) := (Upd.of_below b2).trans (Upd.of_below ba)
  have UH := hide UA
  have SB : Hid (SlY zByB (w2.alloc (.cells #[.slice (some ⟨g, 0, none⟩) (n + 1) k] 22)) (some ⟨w2.heap.size, 0, none⟩) 1 1 [⟨some ⟨g, 0, none⟩, k, D ++ [90]⟩]) := by
    have := sl_box (Y := zByB) w2 ⟨some ⟨g, 0, none⟩, k, D ++ [90]⟩ 22
    simp only [zByB, yS, HLN.out] at this
    exact this
  clear UA ba
  go_wp2_with (at_builtin; go_must (refine appY kzByB _ rfl (.tmp 14) (.tmp 16) rfl B La va rfl (some ⟨w2.heap.size, 0, none⟩) 1 1 rfl [⟨some ⟨g, 0, none⟩, k, D ++ [90]⟩] SB.out GA.out.oa (by have := HG.out.ltB; simp; omega) (by unfold maxLen; omega) hP ?_))
  intro va' w3 o3 g3 n3
  have zc := gcell g3 GA.out.ca (fun e => by have := (GA.out.oa.blk b e).1; have := HG.out.lt; omega)
  have zf := gfroz g3 (by simp; omega) GA.out.fa (fun e => by have := (GA.out.oa.blk b e).1; have := HG.out.lt; omega)
  have G4 := hide (GY.pushA hTByB (x := ⟨some ⟨g, 0, none⟩, k, D ++ [90]⟩) GA.out XA.out g3 o3 (n3.imp id (fun ⟨k', h1, h2⟩ => ⟨k', h1, by simpa using h2⟩)))
  obtain ⟨r2, q2, hv2, _⟩ := o3.form
  have U4 : Hid (Upd (fun k => k = b ∨ va.ownBlock = some k ∨ vb.ownBlock = some k) w (w3.setCell ⟨b, 0, none⟩ va')) := (UH.out.trans (gupd g3 (fun k e => .inr (.inl e)))).setCell (.inl (.inl rfl)) _
  have N2 : Hid (va'.ownBlock = va.ownBlock ∨ ∃ k, va'.ownBlock = some k ∧ w.heap.size ≤ k) := n3.imp id (fun ⟨k', h1, h2⟩ => ⟨k', h1, by first | omega | (simp at h2; omega)⟩)
  clear GA XA UH G2 X2 y2 d2 o3 g3 n3 HS SB
  generalize (La ++ [(⟨some ⟨g, 0, none⟩, k, D ++ [90]⟩ : SV Int)]).length = l2 at hv2
  subst hv2
  go_wp2_with fail
  clear zc zf
  generalize w3.setCell ⟨b, 0, none⟩ (.slice r2 l2 q2) = W at *
  have j3 := G4.out.cb
  have jz : b < W.heap.size := Nat.lt_of_lt_of_le G4.out.lt G4.out.ltB
  have XW : Hid (SlY yBy W (some ⟨g, 0, none⟩) (n + 1) k (D ++ [90])) := by
    have := (G4.out.da ⟨some ⟨g, 0, none⟩, k, D ++ [90]⟩ (by simp)).sl' kBy
    simp only [HLN.out] at this
    exact this
  have LT3 : Hid ((Lb.length + 1) * 24 ≤ 140737488355328) := by show _ ≤ _; rw [hP3]; exact hP
  go_region_law (first
    | (refine stepY kzByB rfl (.tmp 24) (.tmp 27) rfl B Lb vb rfl (some ⟨w5.heap.size, 0, none⟩) 1 1 rfl [⟨some ⟨g5, 0, none⟩, k5, D ++ [90]⟩] SB5.out GB.out.ob GB.out.ltB (by have := LT3.out; unfold maxLen; omega) LT3.out ?_; intro v6 w6 o6 g6 n6; have qc := gcell g6 GB.out.cb (fun e => by have := (GB.out.ob.blk b e).1; have := GB.out.lt; omega); have qf := gfroz g6 (by have := GB.out.lt; have := GB.out.ltB; omega) GB.out.fb (fun e => by have := (GB.out.ob.blk b e).1; have := GB.out.lt; omega); obtain ⟨r3, q3, hv3, _⟩ := o6.form; have G7 := hide (GY.pushB hTByB (x := ⟨some ⟨g5, 0, none⟩, k5, D ++ [90]⟩) GB.out X5.out g6 o6 n6); have N3 : Hid (v6.ownBlock = vb.ownBlock ∨ ∃ k, v6.ownBlock = some k ∧ w.heap.size ≤ k) := n6.imp id (fun ⟨k', h1, h2⟩ => ⟨k', h1, Nat.le_trans UB.out.size h2⟩); have U7 := hide ((UB.out.trans (gupd g6 (fun k e => .inr (.inr e)))).setCell (p := ⟨b, 1, none⟩) (.inl (.inl rfl)) v6); generalize (Lb ++ [(⟨some ⟨g5, 0, none⟩, k5, D ++ [90]⟩ : SV Int)]).length = l3 at hv3; subst hv3)
    | (refine step_copyby rfl (.tmp 25) rfl (some ⟨g, 0, none⟩) (n + 1) k rfl (D ++ [90]) (XW.out.later (Below.refl _ _).drew) (by omega) ?_; intro v5 w5 o5 b5; have s1 : w5.cell? ⟨b, 1, none⟩ = some vb := (b5.cell (p := ⟨b, 1, none⟩) jz).trans j3; have hz5 : b < w5.heap.size := Nat.lt_of_lt_of_le jz b5.size; have s2 : ∀ x, (w5.alloc x).cell? ⟨b, 1, none⟩ = some vb := (fun x => (World.cell?_alloc_past _ _ _ hz5).trans s1); obtain ⟨a5, k5, hv5, _, _, kn, kg⟩ := o5.form; obtain ⟨g5, ha5⟩ : ∃ g5, a5 = some ⟨g5, 0, none⟩ := (by cases a5 with | none => exact absurd (kn rfl).1 (by simp) | some z => obtain ⟨g5, hz, _⟩ := kg z rfl; exact ⟨g5, by rw [hz]⟩); subst ha5; rw [HLN.out] at hv5; subst hv5; have b5' : Below W.heap.size W w5 := (Below.refl _ _).drew.trans b5; have ba5 : Below w5.heap.size w5 (w5.alloc (.cells #[.slice (some ⟨g5, 0, none⟩) (n + 1) k5] 22)) := (Below.refl _ _).alloc (Nat.le_refl _) _; have GB := hide ((G4.out.bel b5').bel ba5); have X5 : Hid (OwnY yBy B (w5.alloc (.cells #[.slice (some ⟨g5, 0, none⟩) (n + 1) k5] 22)) (.slice (some ⟨g5, 0, none⟩) (D ++ [90]).length k5) (D ++ [90])) := (by show OwnY _ _ _ _ _; rw [HLN.out]; exact (o5.low G4.out.ltB).grow ba5); have UB := hide ((U4.out.trans (Upd.of_below b5')).trans (Upd.of_below ba5)); have SB5 : Hid (SlY zByB (w5.alloc (.cells #[.slice (some ⟨g5, 0, none⟩) (n + 1) k5] 22)) (some ⟨w5.heap.size, 0, none⟩) 1 1 [⟨some ⟨g5, 0, none⟩, k5, D ++ [90]⟩]) := (by have := sl_box (Y := zByB) w5 ⟨some ⟨g5, 0, none⟩, k5, D ++ [90]⟩ 22; simp only [zByB, yS, HLN.out] at this; exact this); clear o5 b5 ba5 kn kg))
  all_goals
    clear n6 o6 g6 qc qf UB X5 GB s2 s1 b5' LT3 XW j3 U4 G4 HG
    generalize w6.setCell ⟨b, 1, none⟩ (.slice r3 l3 q3) = W7 at *
    have PX : Hid (SlY yBy W7 (some ⟨g, 0, none⟩) n k D) := (G7.out.da ⟨some ⟨g, 0, none⟩, k, D ++ [90]⟩ (by simp)).front kBy HD.out
    unfold maxLen at k2
    go_wp2
    go_ret
    exact ⟨g, k, _, _, g5, k5, rfl, PX.out, hgB, G7.out, U7.out, N2.out, N3.out⟩

end Go.Proofs.Ytjodieiaccfkiaa
