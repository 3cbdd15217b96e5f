import Derived.Test.YtcchnaldanibgaaVy
import Derived.Test.YtcchnaldanibgaaVn
namespace Go.Proofs.Ytcchnaldanibgaa
open Go.RowKit
set_option linter.unusedVariables false
set_option linter.unusedSimpArgs false

theorem map_mD (Z : List ZE) (z : ZE) : (Z ++ [z]).map ZE.m = Z.map ZE.m ++ [⟨some ⟨z.g, 0, none⟩, z.c, z.D ++ [(77, 88)]⟩] := by
  rw [List.map_append]; rfl
theorem map_xD (Z : List ZE) (z : ZE) : (Z ++ [z]).map ZE.x = Z.map ZE.x ++ [⟨some ⟨z.g, 0, none⟩, z.c, z.D⟩] := by
  rw [List.map_append]; rfl
theorem x_D (Z : List ZE) : (Z.map ZE.x).map (·.D) = Z.map (·.D) := by rw [List.map_map]; rfl
/-- What the loop has made so far. -/
structure MSt (w wr : World) (b B : Nat) (L : List Vec) (k : Nat) (u v2 v3 : Value) (Z : List ZE) (L3 : List Vec) : Prop where
  same : Z.map (·.D) = (L.take k).map (·.D)
  gx : GX wr b B v2 v3 (Z.map ZE.m) L3
  was : (Z.map ZE.m).map (·.D) = L3.map (·.D)
  own : OwnV B wr u (Z.map ZE.x)
  ne : ∀ j, u.ownBlock = some j → v2.ownBlock ≠ some j ∧ v3.ownBlock ≠ some j
  bel : Below w.heap.size w wr
theorem MSt.len {w wr : World} {b B : Nat} {L : List Vec} {k : Nat} {u v2 v3 : Value} {Z : List ZE} {L3 : List Vec} (h : MSt w wr b B L k u v2 v3 Z L3) (hk : k ≤ L.length) : Z.length = k := by
  have := congrArg List.length h.same
  rw [List.length_map, List.length_map, List.length_take] at this
  omega
theorem MSt.len3 {w wr : World} {b B : Nat} {L : List Vec} {k : Nat} {u v2 v3 : Value} {Z : List ZE} {L3 : List Vec} (h : MSt w wr b B L k u v2 v3 Z L3) : L3.length = (Z.map ZE.m).length := by
  have := congrArg List.length h.was
  simp at this ⊢
  omega
theorem MSt.push {w wr w1 w2 : World} {b B : Nat} {L : List Vec} {k : Nat} {u v2 v3 u' v2' v3' : Value} {Z : List ZE} {L3 : List Vec} {g c' g5 k5 : Nat} {y : Vec} {ob : Obj} (h : MSt w wr b B L k u v2 v3 Z L3) (hy : L[k]? = some y)
    (G1 : GX w1 b B v2' v3' (Z.map ZE.m ++ [⟨some ⟨g, 0, none⟩, c', y.D ++ [(77, 88)]⟩]) (L3 ++ [⟨some ⟨g5, 0, none⟩, k5, y.D ++ [(77, 88)]⟩])) (U1 : Upd (fun k => k = b ∨ v2.ownBlock = some k ∨ v3.ownBlock = some k) wr w1)
    (N2 : v2'.ownBlock = v2.ownBlock ∨ ∃ k, v2'.ownBlock = some k ∧ wr.heap.size ≤ k) (N3 : v3'.ownBlock = v3.ownBlock ∨ ∃ k, v3'.ownBlock = some k ∧ wr.heap.size ≤ k)
    (o2 : OwnV B w2 u' (Z.map ZE.x ++ [⟨some ⟨g, 0, none⟩, c', y.D⟩])) (g2 : (w1.alloc ob).grownBy w2 u.ownBlock) (n2 : u'.ownBlock = u.ownBlock ∨ ∃ k, u'.ownBlock = some k ∧ (w1.alloc ob).heap.size ≤ k) (hbw : w.heap.size ≤ b) :
    MSt w w2 b B L (k + 1) u' v2' v3' (Z ++ [⟨g, c', y.D⟩]) (L3 ++ [⟨some ⟨g5, 0, none⟩, k5, y.D ++ [(77, 88)]⟩]) := by
  have hsu : ∀ j, u.ownBlock = some j → ¬ (j = b ∨ v2.ownBlock = some j ∨ v3.ownBlock = some j) := fun j hj hs => by
    rcases hs with rfl | hs | hs
    · have := (h.own.blk _ hj).1
      have := h.gx.lt
      omega
    · exact (h.ne j hj).1 hs
    · exact (h.ne j hj).2 hs
  have ou1 : OwnV B w1 u (Z.map ZE.x) := h.own.updB U1 hsu
  have ba : Below w1.heap.size w1 (w1.alloc ob) := (Below.refl _ _).alloc (Nat.le_refl _) _
  have oua := ou1.bel ba (Nat.le_refl _)
  have Ga := G1.bel ba
  have hold : ∀ (v v' : Value), (v'.ownBlock = v.ownBlock ∨ ∃ k, v'.ownBlock = some k ∧ wr.heap.size ≤ k) → (∀ j, u.ownBlock = some j → v.ownBlock ≠ some j) → ∀ j, u.ownBlock = some j → v'.ownBlock ≠ some j := by
    intro v v' hv hn j hj e
    rcases hv with hv | ⟨k', hk, hk2⟩
    · exact hn j hj (hv.symm.trans e)
    · rw [hk] at e
      cases e
      have := (h.own.blk _ hj).2
      omega
  have hne1 : ∀ j, u.ownBlock = some j → v2'.ownBlock ≠ some j ∧ v3'.ownBlock ≠ some j := fun j hj =>
    ⟨hold v2 v2' N2 (fun j hj => (h.ne j hj).1) j hj, hold v3 v3' N3 (fun j hj => (h.ne j hj).2) j hj⟩
  have b1 : Below w.heap.size w w1 := h.bel.trans (U1.below (Nat.le_trans (by have := h.bel.size; exact this) (Nat.le_refl _)) (fun k hk => by
    rcases hk with rfl | hk | hk
    · exact hbw
    · have := (h.gx.o2.blk k hk).1
      have := h.gx.lt
      omega
    · have := (h.gx.o3.blk k hk).1
      have := h.gx.lt
      omega))
  refine ⟨?_, ?_, ?_, ?_, ?_, ?_⟩
  · rw [List.map_append, h.same, List.take_add_one, hy]
    simp
  · rw [map_mD]
    exact Ga.grow oua g2 hne1
  · rw [map_mD, List.map_append, List.map_append, h.was]
    rfl
  · rw [map_xD]
    exact o2
  · intro j hj
    rcases n2 with n2 | ⟨k', hk, hk2⟩
    · exact hne1 j (n2.symm.trans hj)
    · rw [hk] at hj
      cases hj
      refine ⟨fun e => ?_, fun e => ?_⟩
      · have := (Ga.o2.blk _ e).2
        omega
      · have := (Ga.o3.blk _ e).2
        omega
  · refine (b1.alloc b1.size ob).grown g2 (by have := b1.size; simp; omega) (fun k hk => ?_)
    have := (oua.blk k hk).1
    have := h.gx.lt
    omega

theorem GX.under {w w' : World} {b B : Nat} {v2 v3 : Value} {L2 L3 : List Vec} (G : GX w b B v2 v3 L2 L3) (u : Upd (fun k => k = b ∨ v2.ownBlock = some k ∨ v3.ownBlock = some k) w w') : Below b w w' :=
  u.below (Nat.le_of_lt (Nat.lt_of_lt_of_le G.lt G.ltB)) (fun k hk => by
    rcases hk with rfl | hk | hk
    · exact Nat.le_refl _
    · have := (G.o2.blk k hk).1
      have := G.lt
      omega
    · have := (G.o3.blk k hk).1
      have := G.lt
      omega)
theorem refcmpN {w : World} {a1 a2 : Option Addr} {n1 n2 c1 c2 : Nat} {A B : List (Int × Int)} (h1 : SlN w a1 n1 c1 A) (h2 : SlN w a2 n2 c2 B) :
    Calls Try.prog 23 #[.slice a1 n1 c1, .slice a2 n2 c2] w fun e w' => e = .returned (.int .i64 (rel A B)) ∧ Below w.heap.size w w' := by
  obtain ⟨rfl, h1⟩ := h1
  obtain ⟨rfl, h2⟩ := h2
  exact refveccmp_any A B a1 a2 c1 c2 w h1 h2

set_option maxRecDepth 100000 in
set_option maxHeartbeats 2000000 in
theorem merges_walk (L : List Vec) (al : Option Addr) (nl cl : Nat) (a1 a2 : Option Addr) (n1 c1 n2 c2 : Nat) (A B : List (Int × Int)) (w : World) (hL : CameV w al nl cl L) (h1 : SlN w a1 n1 c1 A) (h2 : SlN w a2 n2 c2 B) (hm1 : n1 * 16 ≤ 140737488351232) (hm2 : n2 * 16 ≤ 140737488351232) :
    Calls Try.prog 4 #[.slice al nl cl, .slice a1 n1 c1, .slice a2 n2 c2] w fun e w' => e = .returned (.bool true) ∧ Below w.heap.size w w' := by
  have HL := hide hL
  have H1 := hide h1
  have H2 := hide h2
  have hcl := hL.2.1
  have hcm := hL.2.2.1
  have h24 := hL.2.2.2.2.1
  unfold maxLen at hcm
  have S0 : Hid (MSt w (w.alloc (.cells #[.slice none 0 0, .slice none 0 0, .slice none 0 0, .slice none 0 0, .slice none 0 0, .slice none 0 0, .slice none 0 0, .slice none 0 0, .slice none 0 0, .slice none 0 0] 33)) w.heap.size (w.heap.size + 1) L 0 (.slice none 0 0) (.slice none 0 0) (.slice none 0 0) [] []) :=
    ⟨by simp, GX.new w _, rfl, OwnV.nil _ _, (fun j hj => by cases hj), (Below.refl _ _).alloc (Nat.le_refl _) _⟩
  clear hL h1 h2
  go_enter Try.func4, Try.ntmps4
  go_wp2_with fail
  go_loopw [9, 8] (fun i u wr => ∃ (k : Nat) (v2 v3 : Value) (Z : List ZE) (L3 : List Vec), i = .int .i64 (k : Int) ∧ k ≤ nl ∧ MSt w wr w.heap.size (w.heap.size + 1) L k u v2 v3 Z L3) (fun i _ _ => nl - (intOf i).toNat)
  case atStart => exact ⟨0, _, _, [], [], rfl, Nat.zero_le _, S0.out⟩
  case round =>
    obtain ⟨k, v2, v3, Z, L3, rfl, hk, st⟩ := hrel
    have ST := hide st
    have hlZ := st.len (by rw [HL.out.1]; exact hk)
    have hl3 := st.len3
    have hb := st.bel
    clear st S0
    by_cases hlt : k < nl
    · obtain ⟨y, hy⟩ : ∃ y, L[k]? = some y := ⟨_, List.getElem?_eq_getElem (by rw [HL.out.1]; exact hlt)⟩
      obtain ⟨q, o, rfl, hq, hlie⟩ := HL.out.2.2.2.1 (by rintro rfl; simp at hy)
      obtain ⟨ey, vy⟩ := hlie k y hy
      have ey := (hb.cell (p := ⟨q, o + k, none⟩) hq).trans ey
      have hyb := HL.out.2.2.2.2.2 y (List.mem_of_getElem? hy)
      have GV := hide (given_vec w.heap.size (w.heap.size + 1) v2 v3 (Z.map ZE.m) L3 y.a y.D.length y.c y.D wr ST.out.gx ⟨rfl, vy.bel hb (Nat.le_refl _)⟩ hyb (by rw [List.length_map, hlZ]; omega) hl3)
      have HY := hide hy
      have LZX : Hid ((Z.map ZE.x).length = k) := by show _ = _; rw [List.length_map, hlZ]
      clear vy hlie hyb hlZ hl3 hy
      generalize hyl : y.D.length = yl at *
      have HYL := hide hyl
      clear hyl
      go_wp2_with fail
      refine GV.out.mono ?_
      rintro e w1 ⟨g, c', v2', v3', g5, k5, rfl, x1, hg, G1, u1, N2, N3⟩
      have XX := hide x1
      have hou : OwnV (w.heap.size + 1) (w1.alloc (.cells #[.slice (some ⟨g, 0, none⟩) yl c'] 23)) u8 (Z.map ZE.x) := (ST.out.own.updB u1 (fun j hj hs => by
        rcases hs with rfl | hs | hs
        · have := (ST.out.own.blk _ hj).1
          omega
        · exact (ST.out.ne j hj).1 hs
        · exact (ST.out.ne j hj).2 hs)).bel ((Below.refl _ _).alloc (Nat.le_refl _) _) (Nat.le_refl _)
      have OU := hide hou
      have PK := hide (And.intro (And.intro G1 u1) (And.intro N2 N3))
      have hB1 : w.heap.size + 1 ≤ w1.heap.size := G1.ltB
      clear GV x1 G1 u1 N2 N3 hou
      go_wp2_with (at_builtin; go_must (refine app_new _ rfl (.tmp 20) (.tmp 26) rfl (w.heap.size + 1) (Z.map ZE.x) _ rfl ⟨w1.heap.size, 0, none⟩ rfl ⟨some ⟨g, 0, none⟩, c', y.D⟩ (by simp [HYL.out]) OU.out (by simp; omega) (by rw [LZX.out]; omega) ?_))
      intro u' w2 o2 g2 n2
      have ST2 := hide (ST.out.push HY.out PK.out.1.1 PK.out.1.2 PK.out.2.1 PK.out.2.2 o2 g2 (n2.imp id (fun ⟨k', h1, h2⟩ => ⟨k', h1, by simpa using h2⟩)) (Nat.le_refl _))
      clear PK OU XX o2 g2 n2 ST
      go_wp2
      go_round
      case rel => exact ⟨k + 1, _, _, _, _, by go_num, by omega, ST2.out⟩
      case measure => simp [intOf]; omega
    · obtain rfl : k = nl := by omega
      have hZL : Z.map (·.D) = L.map (·.D) := by
        have := ST.out.same
        rw [List.take_of_length_le (by rw [HL.out.1]; exact Nat.le_refl _)] at this
        exact this
      obtain ⟨ua, uc, rfl, uc1, uc2, ug⟩ := ST.out.own.form'
      rw [List.length_map, hlZ] at uc1
      rw [List.length_map, hlZ] at ST
      rw [List.length_map, hlZ]
      have M1 := hide (mergeU (Z.map ZE.x) ua k uc wr (by rw [List.length_map, hlZ]) (fun hne => by
        obtain ⟨g, rfl, hg1, hg2⟩ := ug hne
        refine ⟨g, 0, rfl, hg2, fun i y hy => ?_⟩
        rw [Nat.zero_add]
        refine ⟨ST.out.own.cell i y hy, ?_⟩
        obtain ⟨z, hz, rfl⟩ := List.mem_map.1 (List.mem_of_getElem? hy)
        exact (ST.out.gx.xok z hz).vec) uc1 uc2)
      rw [x_D, hZL] at M1
      have LZ : Hid (Z.length = k) := hlZ
      have L3L := hide hl3
      have G0 := hide (And.intro ST.out.gx ST.out.was)
      clear ug uc2 ST hZL hlZ hl3
      go_wp2_with fail
      refine M1.out.mono ?_
      rintro e w2 ⟨am, mm, cm', rfl, s2, b2'⟩
      have b2 : Below w.heap.size w w2 := hb.trans (b2'.mono hb.size)
      have G2 := hide (And.intro (G0.out.1.bel b2') G0.out.2)
      have S2 := hide s2
      have M2 := hide (refmergeU L al k cl w2 HL.out.1 (fun hne => by
        obtain ⟨q, o, e, hq, hl⟩ := HL.out.2.2.2.1 hne
        exact ⟨q, o, e, Nat.lt_of_lt_of_le hq b2.size, hl.bel hq b2⟩) hcl HL.out.2.2.1)
      clear s2 b2' G0 M1 hb
      generalize mgE (L.map (·.D)) = eE at *
      generalize mgD (L.map (·.D)) = dD at *
      go_wp2_with fail
      refine M2.out.mono ?_
      rintro e w3 ⟨ar, mr, cr, rfl, s3, b3'⟩
      have b3 : Below w.heap.size w w3 := b2.trans (b3'.mono b2.size)
      have G3 := hide (And.intro (G2.out.1.bel b3') G2.out.2)
      have SS := hide (sameN (S2.out.bel b3') s3)
      rw [decide_eq_true rfl] at SS
      clear s3 b3' G2 M2 b2 S2
      go_wp2_with fail
      refine (num_any _ _).mono ?_
      rintro e w4 ⟨rfl, e1⟩
      have e1 := e1.symm
      subst e1
      go_wp2_with fail
      refine SS.out.mono ?_
      rintro e w4 ⟨rfl, k4, rfl⟩
      have b4' : Below w3.heap.size w3 (w3.drewN k4) := below_drewN (Below.refl _ _) k4
      have b4 : Below w.heap.size w (w3.drewN k4) := b3.trans (b4'.mono b3.size)
      have G4 := hide (And.intro (G3.out.1.bel b4') G3.out.2)
      clear SS G3 b4' b3
      generalize w3.drewN k4 = w4 at *
      have V1 := hide (given_vec w.heap.size (w.heap.size + 1) v2 v3 (Z.map ZE.m) L3 a1 n1 c1 A w4 G4.out.1 (H1.out.bel b4) hm1 (by rw [List.length_map, LZ.out]; omega) L3L.out)
      go_wp2_with fail
      refine V1.out.mono ?_
      rintro e w5 ⟨g, c', v2', v3', g5, k5, rfl, x1, hg, G5', u1, _, _⟩
      have b5 : Below w.heap.size w w5 := b4.trans (G4.out.1.under u1)
      have G5 := hide G5'
      have V2 := hide (given_vec w.heap.size (w.heap.size + 1) v2' v3' _ _ a2 n2 c2 B w5 G5.out (H2.out.bel b5) hm2 (by rw [List.length_append, List.length_map, LZ.out]; simp; omega) (by rw [List.length_append, List.length_append, L3L.out]; rfl))
      clear x1 hg G5' u1 V1
      go_wp2_with fail
      refine V2.out.mono ?_
      rintro e w6 ⟨g', c'', v2'', v3'', g5', k5', rfl, x2, hg, G6', u2, _, _⟩
      have b6 : Below w.heap.size w w6 := b5.trans (G5.out.under u2)
      have X1 : Hid (SlN w6 (some ⟨g, 0, none⟩) n1 c' A) := dcs_prefix (G6'.d2 ⟨some ⟨g, 0, none⟩, c', A ++ [(77, 88)]⟩ (by simp)) H1.out.1
      have X2 := hide x2
      have G6 := hide G6'
      have WAS := hide G4.out.2
      clear x2 hg G6' u2 V2 G5 b4 b5 G4
      go_wp2_with fail
      refine (cmpN X1.out X2.out).mono ?_
      rintro e w7 ⟨rfl, b7'⟩
      have b7 : Below w.heap.size w w7 := b6.trans (b7'.mono b6.size)
      have G7 := hide (G6.out.bel b7')
      clear X1 X2 G6 b7' b6
      go_wp2_with fail
      refine (refcmpN (H1.out.bel b7) (H2.out.bel b7)).mono ?_
      rintro e w8 ⟨rfl, b8'⟩
      have b8 : Below w.heap.size w w8 := b7.trans (b8'.mono b7.size)
      have G8 := hide (G7.out.bel b8')
      clear G7 b8' b7
      generalize rel A B = rr at *
      go_wp2_with fail
      refine (intact_any _ _ _ _ _ _ w8 G8.out (by simp only [List.map_append, WAS.out]; rfl)).mono ?_
      rintro e w9 ⟨rfl, b9'⟩
      go_wp2
      go_ret
      exact ⟨rfl, b8.trans (b9'.mono b8.size)⟩

theorem merges_came (al : Option Addr) (nl cl : Nat) (a1 a2 : Option Addr) (n1 c1 n2 c2 : Nat) (w : World) (hL : ∃ L, CameV w al nl cl L) (h1 : Came w a1 n1 c1) (h2 : Came w a2 n2 c2) :
    Calls Try.prog 4 #[.slice al nl cl, .slice a1 n1 c1, .slice a2 n2 c2] w fun e w' => e = .returned (.bool true) ∧ Below w.heap.size w w' := by
  obtain ⟨L, hL⟩ := hL
  obtain ⟨A, l1, s1, hb1, _⟩ := h1
  obtain ⟨B, l2, s2, hb2, _⟩ := h2
  exact merges_walk L al nl cl a1 a2 n1 c1 n2 c2 A B w hL ⟨l1, by rw [l1]; exact s1⟩ ⟨l2, by rw [l2]; exact s2⟩ hb1 hb2

end Go.Proofs.Ytcchnaldanibgaa
