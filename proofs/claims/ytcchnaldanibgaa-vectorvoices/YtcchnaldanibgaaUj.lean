import Derived.Test.YtcchnaldanibgaaUi
namespace Go.Proofs.Ytcchnaldanibgaa
open Go.RowKit
set_option linter.unusedVariables false
set_option linter.unusedSimpArgs false

theorem room24 (a k n : Nat) (h : (a + n + 1) * 24 ≤ 140737488355328) (hk : k < n) : (a + k + 1) * 24 ≤ 140737488355328 := Nat.le_trans (Nat.mul_le_mul_right 24 (by omega)) h
theorem room32 (k n : Nat) (h : n * 32 ≤ 140737488351232) (hk : k < n) : (k + 1) * 32 ≤ 140737488355328 := by omega
set_option maxRecDepth 100000 in
set_option maxHeartbeats 1000000 in
theorem given_voices (b B : Nat) (v20 v30 : Value) (Z0 : List ZE) (L30 : List Vec) (L : List Voi) (al : Option Addr) (n c : Nat) (w : World) (G : GX w b B v20 v30 (Z0.map ZE.m) L30) (hwas : (Z0.map ZE.m).map (·.D) = L30.map (·.D)) (h : SlW w al n c L) (hlow : ∀ z, al = some z → L ≠ [] → z.block ≠ b ∧ v20.ownBlock ≠ some z.block ∧ v30.ownBlock ≠ some z.block)
    (hv : ∀ m, m ∈ L → ∀ w', Upd (fun k => k = b ∨ v20.ownBlock = some k ∨ v30.ownBlock = some k) w w' → m.x.ok w') (hb : n * 32 ≤ 140737488351232) (hb2 : (Z0.length + n + 1) * 24 ≤ 140737488355328) (hsz : ∀ m, m ∈ L → m.x.D.length * 16 ≤ 140737488351232) :
    Calls Try.prog 24 #[.pointer (some ⟨b, 0, none⟩), .slice al n c] w fun e w' => ∃ u v2 v3 Z L3, e = .returned u ∧ VSt w w' b B v20 v30 L n u v2 v3 Z0 Z L3 := by
  have HW := hide h
  have k1 := h.cap
  have k2 := h.max
  have LN := hide h.len
  unfold maxLen at k2
  have HB := hide (And.intro G.lt G.ltB)
  have S0 : Hid (VSt w w b B v20 v30 L 0 (.slice none 0 0) v20 v30 Z0 [] L30) := ⟨by simp, by simpa using G, by simpa using hwas, OwnW.nil _ _, Upd.refl _ _, .inl rfl, .inl rfl⟩
  have HV := hide hv
  have HZ := hide hsz
  have HLO := hide hlow
  clear h G hwas hv hsz hlow
  go_enter Try.func24, Try.ntmps24
  go_wp2_with fail
  go_loopw [6, 5] (fun i u wr => ∃ (k : Nat) (v2 v3 : Value) (Z : List ZV) (L3 : List Vec), i = .int .i64 (k : Int) ∧ k ≤ n ∧ VSt w wr b B v20 v30 L k u v2 v3 Z0 Z L3) (fun i _ _ => n - (intOf i).toNat)
  case atStart => exact ⟨0, _, _, [], _, rfl, Nat.zero_le _, S0.out⟩
  case round =>
    obtain ⟨k, v2, v3, Z, L3, rfl, hk, st⟩ := hrel
    by_cases hlt : k < n
    · obtain ⟨y, hy⟩ : ∃ y, L[k]? = some y := ⟨_, List.getElem?_eq_getElem (by rw [LN.out]; exact hlt)⟩
      obtain ⟨q, o, hal, hq, hlie⟩ := HW.out.at_ (by rintro rfl; simp at hy)
      have hLne : L ≠ [] := by rintro rfl; simp at hy
      have hqs := HLO.out _ hal hLne
      subst hal
      obtain ⟨p0, p1, _⟩ := hlie k y hy
      have hnS : ¬ (q = b ∨ v20.ownBlock = some q ∨ v30.ownBlock = some q) := fun hh => by
        rcases hh with hh | hh | hh
        · exact hqs.1 hh
        · exact hqs.2.1 hh
        · exact hqs.2.2 hh
      have t0 := (st.upd.cell (p := ⟨q, o + k * 2, none⟩) hq hnS).trans p0
      have t1 := (st.upd.cell (p := ⟨q, o + k * 2 + 1, none⟩) hq hnS).trans p1
      have vok := HV.out y (List.mem_of_getElem? hy) wr st.upd
      have hyb := HZ.out y (List.mem_of_getElem? hy)
      have lZ := st.len (by rw [LN.out]; exact hk)
      have l3 := st.len3
      have LL : ((Z0 ++ Z.map (·.z)).map ZE.m).length = Z0.length + k := by rw [List.length_map, List.length_append, List.length_map, lZ]
      have hqw : q < wr.heap.size := Nat.lt_of_lt_of_le hq st.upd.size
      have hlb := HB.out.1
      have hgx := st.gx.lt
      have hgB := st.gx.ltB
      -- where the voices lie, the rows of the Given are not
      have hnS2 : ¬ (q = b ∨ v2.ownBlock = some q ∨ v3.ownBlock = some q) := fun hh => by
        rcases hh with hh | hh | hh
        · exact hqs.1 hh
        · rcases st.n2 with e | ⟨k', e, hk'⟩
          · exact hqs.2.1 (e.symm.trans hh)
          · rw [e] at hh; cases hh; omega
        · rcases st.n3 with e | ⟨k', e, hk'⟩
          · exact hqs.2.2 (e.symm.trans hh)
          · rw [e] at hh; cases hh; omega
      have LZX : Hid ((Z.map ZV.x).length = k) := by show _ = _; rw [List.length_map, lZ]
      have hs0 := st.upd.size
      have VS : Hid (SlN wr y.x.a y.x.D.length y.x.c y.x.D) := ⟨rfl, vok⟩
      have OWU : Hid (∀ w1, Upd (fun k => k = b ∨ v2.ownBlock = some k ∨ v3.ownBlock = some k) wr w1 → OwnW w.heap.size w1 u5 (Z.map ZV.x)) := fun w1 u1 => st.own.updB u1 (fun j hj hh => by
        rcases hh with hh | hh | hh
        · have := (st.own.blk j hj).1
          have := HB.out.2
          omega
        · exact rowsWV_apart st.own st.gx.o2 hj hh
        · exact rowsWV_apart st.own st.gx.o3 hj hh)
      have dr : Upd (fun k => k = b ∨ v2.ownBlock = some k ∨ v3.ownBlock = some k) wr wr.drew := (Upd.refl _ wr).drewN 1
      have GD := st.gx.bel (w' := wr.drew) (Below.refl _ _).drew
      have VD : Hid (SlN wr.drew y.x.a y.x.D.length y.x.c y.x.D) := VS.out.bel (Below.refl _ _).drew
      have PUSH : Hid (∀ (w1 w2 : World) (g c' g5 k5 : Nat) (v2' v3' u' : Value) (ob : Obj), GX w1 b B v2' v3' ((Z0 ++ Z.map (·.z)).map ZE.m ++ [⟨some ⟨g, 0, none⟩, c', y.x.D ++ [(77, 88)]⟩]) (L3 ++ [⟨some ⟨g5, 0, none⟩, k5, y.x.D ++ [(77, 88)]⟩]) → Upd (fun k => k = b ∨ v2.ownBlock = some k ∨ v3.ownBlock = some k) wr.drew w1 → (v2'.ownBlock = v2.ownBlock ∨ ∃ k, v2'.ownBlock = some k ∧ wr.drew.heap.size ≤ k) → (v3'.ownBlock = v3.ownBlock ∨ ∃ k, v3'.ownBlock = some k ∧ wr.drew.heap.size ≤ k) →
          OwnW w.heap.size (w1.alloc ob) u5 (Z.map ZV.x) → OwnW w.heap.size w2 u' (Z.map ZV.x ++ [⟨y.node, ⟨some ⟨g, 0, none⟩, c', y.x.D⟩⟩]) → (w1.alloc ob).grownBy w2 u5.ownBlock → ∃ v2 v3 Z L3, VSt w w2 b B v20 v30 L (k + 1) u' v2 v3 Z0 Z L3) :=
        fun w1 w2 g c' g5 k5 v2' v3' u' ob h1 h2 h3 h4 h5 h6 h7 => ⟨_, _, _, _, st.push hy HB.out.2 h1 (dr.trans h2) h3 h4 h5 h6 h7⟩
      have CEL : Hid (∀ w1, Upd (fun k => k = b ∨ v2.ownBlock = some k ∨ v3.ownBlock = some k) wr.drew w1 → w1.cell? ⟨q, o + k * 2, none⟩ = some (.int .i64 y.node) ∧ w1.cell? ⟨q, o + k * 2 + 1, none⟩ = some (.slice y.x.a y.x.D.length y.x.c)) := fun w1 u1 => ⟨((dr.trans u1).cell (p := ⟨q, o + k * 2, none⟩) hqw hnS2).trans t0, ((dr.trans u1).cell (p := ⟨q, o + k * 2 + 1, none⟩) hqw hnS2).trans t1⟩
      have OAL : Hid (∀ w1 ob, Upd (fun k => k = b ∨ v2.ownBlock = some k ∨ v3.ownBlock = some k) wr.drew w1 → OwnW w.heap.size (w1.alloc ob) u5 (Z.map ZV.x)) := fun w1 ob u1 => (OWU.out w1 (dr.trans u1)).alloc ob
      have lx : (((Z0 ++ Z.map (·.z)).map ZE.m).length + 1) * 24 ≤ 140737488355328 := by rw [LL]; exact room24 _ _ _ hb2 hlt
      have LX := hide lx
      clear lx
      have hdz : wr.drew.heap.size = wr.heap.size := rfl
      have GDH := hide GD
      have L3H := hide l3
      clear st hlie p0 p1 vok hnS hqs hLne hy hnS2 S0 GD OWU VS dr LL l3
      generalize hXX : (Z0 ++ Z.map (·.z)).map ZE.m = XX at *
      generalize hYX : Z.map ZV.x = YX at *
      clear hXX hYX
      generalize hyl : y.x.D.length = yl at *
      have HYL := hide hyl
      clear hyl
      generalize y.x.a = ya at *
      generalize y.x.c = yc at *
      generalize y.node = yn at *
      generalize y.x.D = yD at *
      have BWS : Hid (∀ w1 : World, Upd (fun k => k = b ∨ v2.ownBlock = some k ∨ v3.ownBlock = some k) wr.drew w1 → ∀ ob, w.heap.size ≤ (w1.alloc ob).heap.size) := fun w1 u1 ob => Nat.le_trans (Nat.le_trans hs0 u1.size) (by simp)
      go_wp2_with fail
      go_region_law (first
        | (refine step_voice rfl (.tmp 13) (.tmp 27) rfl w.heap.size YX _ rfl ⟨w1.heap.size, 0, none⟩ rfl ⟨yn, ⟨some ⟨g, 0, none⟩, c', yD⟩⟩ (by simp) (by simp [Addr.add, HYL.out]) (OAL.out w1 _ u1) (BWS.out w1 u1 _) (by rw [LZX.out]; exact room32 _ _ hb hlt) ?_; intro u' w2 o2 g2; have ST2 := hide (PUSH.out w1 w2 g c' g5 k5 v2' v3' u' _ G1.out u1 N2 N3 (OAL.out w1 _ u1) o2 g2); clear o2 g2)
        | (refine step_given rfl (.tmp 19) (.tmp 24) rfl b B v2 v3 XX L3 ya yl yc yD rfl rfl GDH.out VD.out hyb LX.out L3H.out ?_; intro g c' v2' v3' g5 k5 w1 x1 hg G1' u1 N2 N3; have G1 := hide G1'; clear G1' x1; obtain ⟨s0, s1⟩ := CEL.out w1 u1))
      all_goals
        go_wp2
        go_round
        case rel =>
          obtain ⟨e1, e2, e3, e4, e5⟩ := ST2.out
          exact ⟨k + 1, e1, e2, e3, e4, by go_num, by omega, e5⟩
        case measure => simp [intOf]; omega
    · obtain rfl : k = n := by omega
      have ST := hide st
      clear st
      go_wp2
      go_ret
      exact ⟨_, _, _, _, _, rfl, ST.out⟩

end Go.Proofs.Ytcchnaldanibgaa
