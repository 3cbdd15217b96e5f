import Derived.Test.YtgjmiemkjnnepaaHd
namespace Go.Proofs.Ytgjmiemkjnnepaa
open Go.RowKit Go.Maps
open Classical
set_option linter.unusedVariables false
set_option linter.unusedSimpArgs false

theorem upd_sets' {S : Nat → Prop} {b : Nat} {w0 : World} (hb : w0.heap.size ≤ b) : ∀ (vs : List Value) (i : Nat) (w : World), Upd S w0 w → Upd S w0 (sets w b i vs)
  | [], _, _, h => h
  | u :: r, i, w, h => upd_sets' hb r (i + 1) _ (h.setCell (p := ⟨b, i, none⟩) (.inr hb) u)
set_option maxRecDepth 100000 in
set_option maxHeartbeats 4000000 in
theorem copymsg_any (m : Mg) (a1 a2 : Option Addr) (n1 n2 c1 c2 : Nat) (L : List En) (D : List (Int × Int)) (w : World) (h1 : SlY yE w a1 n1 c1 L) (h2 : SlY yD w a2 n2 c2 D) (hb1 : n1 * 48 ≤ 140737488355328) (hb2 : n2 * 16 ≤ 140737488355328) :
    Calls Try.prog 5 #[m.val (.slice a1 n1 c1) (.slice a2 n2 c2)] w fun e w' => ∃ v1 v2, e = .returned (m.val v1 v2) ∧ OwnY yE w.heap.size w' v1 L ∧ OwnY yD w.heap.size w' v2 D ∧ Below w.heap.size w w' := by
  have H1 := hide h1
  have H2 := hide h2
  clear h1 h2
  have M1 := hide ((MBox.new w m (.slice a1 n1 c1) (.slice a2 n2 c2)).bel ((Below.refl _ _).alloc (Nat.le_refl _) (.cells (zM.cs (.slice none 0 0) (.slice none 0 0)).toArray 36)))
  have Z0 := MBox.new (w.alloc (.cells (m.cs (.slice a1 n1 c1) (.slice a2 n2 c2)).toArray 36)) zM (.slice none 0 0) (.slice none 0 0)
  rw [World.size_alloc] at Z0
  have Z1 := hide Z0
  clear Z0
  have B1 : Hid (Below w.heap.size w ((w.alloc (.cells (m.cs (.slice a1 n1 c1) (.slice a2 n2 c2)).toArray 36)).alloc (.cells (zM.cs (.slice none 0 0) (.slice none 0 0)).toArray 36))) := ((Below.refl _ _).alloc (Nat.le_refl _) _).alloc (by simp) _
  have hZ : (zM.cs (.slice none 0 0) (.slice none 0 0)).toArray = #[.int .i64 0, .int .i64 0, .int .i64 0, .int .i64 0, .int .i64 0, .int .i64 0, .int .i64 0, .string ⟨#[]⟩, .int .i64 0, .int .i64 0, .string ⟨#[]⟩, .int .i64 0, .int .i64 0, .int .i64 0, .int .u64 0, .int .u64 0, .slice none 0 0, .slice none 0 0] := rfl
  go_enter Try.func5, Try.ntmps5
  go_upto_region 1 with (refine boxM rfl (.tmp 0) rfl m _ _ rfl ?_)
  rw [← hZ]
  generalize hW : ((w.alloc _).alloc _) = W at M1 Z1 B1 ⊢
  have hws : W.heap.size = w.heap.size + 2 := by rw [← hW]; simp
  clear hW hZ
  have z16 := M1.out.cell 16 _ rfl
  have hpos : w.heap.size < W.heap.size := by omega
  go_wp2_with fail
  refine (copyent_any a1 n1 c1 L W (H1.out.later B1.out) hb1).mono ?_
  rintro e W1 ⟨v1, rfl, o1, b1⟩
  have hz1 := b1.size
  have M2 := hide ((M1.out.bel b1).log v1)
  have Z2 := hide ((Z1.out.bel b1).other (k := w.heap.size) (j := 16) (by omega) v1)
  have O2 := hide (((o1.low (Nat.le_of_eq hws.symm : w.heap.size + 2 ≤ W.heap.size)).low_set (p := ⟨w.heap.size, 16, none⟩) (by simp) v1))
  have B2 := hide ((B1.out.trans (b1.mono B1.out.size)).setCell (p := ⟨w.heap.size, 16, none⟩) (Nat.le_refl _) v1)
  obtain ⟨al, cl, rfl, _⟩ := o1.form
  have y16 := (M1.out.bel b1).cell 16 _ rfl
  have yf := (M1.out.bel b1).free 16
  have y17 := (M1.out.bel b1).cell 17 _ rfl
  clear o1 z16 M1 Z1 B1
  go_wp2_with fail
  clear y16 y17 yf
  have hz2 : (W1.setCell ⟨w.heap.size, 16, none⟩ (.slice al L.length cl)).heap.size = W1.heap.size := by simp [World.setCell]
  clear b1
  generalize W1.setCell ⟨w.heap.size, 16, none⟩ (.slice al L.length cl) = W2 at *
  refine (copyvecY a2 n2 c2 D W2 (H2.out.bel B2.out (Nat.le_refl _)) hb2).mono ?_
  rintro e W3 ⟨v2, rfl, o3, b3⟩
  have hz3 := b3.size
  have M3 := hide ((M2.out.bel b3).vec v2)
  have Z3 := hide ((Z2.out.bel b3).other (k := w.heap.size) (j := 17) (by omega) v2)
  have B3 := hide ((B2.out.trans (b3.mono B2.out.size)).setCell (p := ⟨w.heap.size, 17, none⟩) (Nat.le_refl _) v2)
  have O3 := hide ((O2.out.grow b3).low_set (p := ⟨w.heap.size, 17, none⟩) (by simp) v2)
  have P3 := hide ((o3.low (B' := w.heap.size + 2) (by omega)).low_set (p := ⟨w.heap.size, 17, none⟩) (by simp) v2)
  obtain ⟨am, cm, rfl, _⟩ := o3.form
  have y17 := (M2.out.bel b3).cell 17 _ rfl
  have yf := (M2.out.bel b3).free 17
  clear o3 b3 M2 Z2 B2 O2
  go_upto_region 3 with fail
  clear y17 yf
  generalize W3.setCell ⟨w.heap.size, 17, none⟩ (.slice am D.length cm) = W4 at *
  go_wp2_with (first
    | (refine loadM rfl (.tmp 1) rfl w.heap.size m _ _ rfl M3.out ?_)
    | (refine storeM rfl (.tmp 2) (.tmp 11) rfl (w.heap.size + 1) zM m _ _ _ _ rfl rfl Z3.out rfl rfl ?_; intro W5 e5 M5 u5 z5))
  refine bodyPost_ret (results_msg rfl rfl M5) rfl ⟨_, _, rfl, ?_, ?_, ?_⟩
  · rw [e5]; exact OwnY.low (OwnY.sets (b := w.heap.size + 1) (by omega) _ 0 W4 O3.out) (by omega)
  · rw [e5]; exact OwnY.low (OwnY.sets (b := w.heap.size + 1) (by omega) _ 0 W4 P3.out) (by omega)
  · rw [e5]; exact below_sets (b := w.heap.size + 1) (by omega) _ 0 W4 B3.out
set_option maxRecDepth 100000 in
set_option maxHeartbeats 4000000 in
theorem given_msg (m : Mg) (a1 a2 : Option Addr) (n1 n2 c1 c2 : Nat) (L : List En) (D : List (Int × Int)) (b B : Nat) (v2 v3 v4 v5 : Value) (Da Db : List (SV (Int × Int))) (La Lb : List (SV En)) (w : World) (G : GM w b B v2 v3 v4 v5 Da Db La Lb) (h1 : SlY yE w a1 n1 c1 L) (h2 : SlY yD w a2 n2 c2 D) (hb1 : n1 * 48 ≤ 140737488351232) (hb2 : n2 * 16 ≤ 140737488351232) (hP : (La.length + 1) * 24 ≤ 140737488355328) (hP3 : Lb.length = La.length) (hQ : (Da.length + 1) * 24 ≤ 140737488355328) (hQ3 : Db.length = Da.length) (hS : ∀ z, a2 = some z → D ≠ [] → z.block ≠ b ∧ v4.ownBlock ≠ some z.block ∧ v5.ownBlock ≠ some z.block) :
    Calls Try.prog 4 #[.pointer (some ⟨b, 0, none⟩), m.val (.slice a1 n1 c1) (.slice a2 n2 c2)] w fun e w' => ∃ g c g' c' v2' v3' v4' v5' h k h' k', e = .returned (m.val (.slice (some ⟨g, 0, none⟩) n1 c) (.slice (some ⟨g', 0, none⟩) n2 c')) ∧ GM w' b B v2' v3' v4' v5' (Da ++ [⟨some ⟨g', 0, none⟩, c', D ++ [mkD]⟩]) (Db ++ [⟨some ⟨h', 0, none⟩, k', D ++ [mkD]⟩]) (La ++ [⟨some ⟨g, 0, none⟩, c, L ++ [mkE]⟩]) (Lb ++ [⟨some ⟨h, 0, none⟩, k, L ++ [mkE]⟩]) ∧ Upd (fun k => k = b ∨ v2.ownBlock = some k ∨ v3.ownBlock = some k ∨ v4.ownBlock = some k ∨ v5.ownBlock = some k) w w' ∧ (v2'.ownBlock = v2.ownBlock ∨ ∃ k, v2'.ownBlock = some k ∧ w.heap.size ≤ k) ∧ (v3'.ownBlock = v3.ownBlock ∨ ∃ k, v3'.ownBlock = some k ∧ w.heap.size ≤ k) ∧ (v4'.ownBlock = v4.ownBlock ∨ ∃ k, v4'.ownBlock = some k ∧ w.heap.size ≤ k) ∧ (v5'.ownBlock = v5.ownBlock ∨ ∃ k, v5'.ownBlock = some k ∧ w.heap.size ≤ k) := by
  have H1 := hide h1
  have H2 := hide h2
  have HG := hide G
  have HS := hide hS
  have hbw : b < w.heap.size := Nat.lt_of_lt_of_le G.lt G.ltB
  have hBw := G.ltB
  have K2 := hide G.o2.blk
  have K3 := hide G.o3.blk
  have K4 := hide G.o4.blk
  have K5 := hide G.o5.blk
  clear h1 h2 G hS
  have M1 := hide ((MBox.new w m (.slice a1 n1 c1) (.slice a2 n2 c2)).bel ((Below.refl _ _).alloc (Nat.le_refl _) (.cells (zM.cs (.slice none 0 0) (.slice none 0 0)).toArray 36)))
  have Z0 := MBox.new (w.alloc (.cells (m.cs (.slice a1 n1 c1) (.slice a2 n2 c2)).toArray 36)) zM (.slice none 0 0) (.slice none 0 0)
  rw [World.size_alloc] at Z0
  have Z1 := hide Z0
  clear Z0
  have B1 : Hid (Below w.heap.size w ((w.alloc (.cells (m.cs (.slice a1 n1 c1) (.slice a2 n2 c2)).toArray 36)).alloc (.cells (zM.cs (.slice none 0 0) (.slice none 0 0)).toArray 36))) := ((Below.refl _ _).alloc (Nat.le_refl _) _).alloc (by simp) _
  have hZ : (zM.cs (.slice none 0 0) (.slice none 0 0)).toArray = #[.int .i64 0, .int .i64 0, .int .i64 0, .int .i64 0, .int .i64 0, .int .i64 0, .int .i64 0, .string ⟨#[]⟩, .int .i64 0, .int .i64 0, .string ⟨#[]⟩, .int .i64 0, .int .i64 0, .int .i64 0, .int .u64 0, .int .u64 0, .slice none 0 0, .slice none 0 0] := rfl
  go_enter Try.func4, Try.ntmps4
  go_upto_region 1 with (refine boxM rfl (.tmp 1) rfl m _ _ rfl ?_)
  rw [← hZ]
  generalize hW : ((w.alloc _).alloc _) = W at M1 Z1 B1 ⊢
  have hws : W.heap.size = w.heap.size + 2 := by rw [← hW]; simp
  clear hW hZ
  have z16 := M1.out.cell 16 _ rfl
  have hpos : w.heap.size < W.heap.size := by omega
  go_wp2_with fail
  refine (given_entM b B v2 v3 v4 v5 Da Db La Lb a1 n1 c1 L W (HG.out.bel B1.out) (H1.out.later B1.out) hb1 hP hP3).mono ?_
  rintro e W1 ⟨g, c, v4', v5', h5, k5, rfl, sl1, hg, G1, u1, N4, N5⟩
  have hz1 := u1.size
  have nq : ¬ (w.heap.size = b ∨ v4.ownBlock = some w.heap.size ∨ v5.ownBlock = some w.heap.size) := by
    rintro (e | e | e)
    · omega
    · have := (K4.out _ e).2; omega
    · have := (K5.out _ e).2; omega
  have nq1 : ¬ (w.heap.size + 1 = b ∨ v4.ownBlock = some (w.heap.size + 1) ∨ v5.ownBlock = some (w.heap.size + 1)) := by
    rintro (e | e | e)
    · omega
    · have := (K4.out _ e).2; omega
    · have := (K5.out _ e).2; omega
  have M2 := hide ((M1.out.upd u1 nq).log (.slice (some ⟨g, 0, none⟩) n1 c))
  have Z2 := hide ((Z1.out.upd u1 nq1).other (k := w.heap.size) (j := 16) (by omega) (.slice (some ⟨g, 0, none⟩) n1 c))
  have y16 := (M1.out.upd u1 nq).cell 16 _ rfl
  have yf := (M1.out.upd u1 nq).free 16
  have y17 := (M1.out.upd u1 nq).cell 17 _ rfl
  have G2 := hide (G1.upd (S := fun x => x = w.heap.size) ((Upd.refl (fun x => x = w.heap.size) W1).setCell (p := ⟨w.heap.size, 16, none⟩) (.inl rfl) (.slice (some ⟨g, 0, none⟩) n1 c)) (by intro e; exact absurd e (by omega)) (by
    rintro k c f T hk hT rfl
    obtain ⟨c', f', hk'⟩ := (M1.out.upd u1 nq).kind
    rw [hk'] at hk
    injection hk with hk
    injection hk with _ hk
    exact hM T hT hk.symm))
  have U2 : Hid (Upd (fun k => k = b ∨ v4.ownBlock = some k ∨ v5.ownBlock = some k) w (W1.setCell ⟨w.heap.size, 16, none⟩ (.slice (some ⟨g, 0, none⟩) n1 c))) := ((Upd.of_below B1.out).trans u1).setCell (p := ⟨w.heap.size, 16, none⟩) (.inr (Nat.le_refl _)) _
  have hz2 : (W1.setCell ⟨w.heap.size, 16, none⟩ (.slice (some ⟨g, 0, none⟩) n1 c)).heap.size = W1.heap.size := by simp [World.setCell]
  have HN4 := hide N4
  have HN5 := hide N5
  clear z16 M1 Z1 B1 nq nq1 sl1 G1 u1 N4 N5
  go_wp2_with fail
  clear y16 y17 yf
  generalize W1.setCell ⟨w.heap.size, 16, none⟩ (.slice (some ⟨g, 0, none⟩) n1 c) = W2 at *
  refine (given_vecM b B v2 v3 v4' v5' Da Db _ _ a2 n2 c2 D W2 G2.out (H2.out.upd U2.out (fun z hz hne => by
    rintro (e | e | e)
    · exact (HS.out z hz hne).1 e
    · exact (HS.out z hz hne).2.1 e
    · exact (HS.out z hz hne).2.2 e)) hb2 hQ hQ3).mono ?_
  rintro e W3 ⟨g', c', v2', v3', h3, k3, rfl, sl3, hg', G3, u3, N2, N3⟩
  have hz3 := u3.size
  have nq : ¬ (w.heap.size = b ∨ v2.ownBlock = some w.heap.size ∨ v3.ownBlock = some w.heap.size) := by
    rintro (e | e | e)
    · omega
    · have := (K2.out _ e).2; omega
    · have := (K3.out _ e).2; omega
  have nq1 : ¬ (w.heap.size + 1 = b ∨ v2.ownBlock = some (w.heap.size + 1) ∨ v3.ownBlock = some (w.heap.size + 1)) := by
    rintro (e | e | e)
    · omega
    · have := (K2.out _ e).2; omega
    · have := (K3.out _ e).2; omega
  have M3 := hide ((M2.out.upd u3 nq).vec (.slice (some ⟨g', 0, none⟩) n2 c'))
  have Z3 := hide ((Z2.out.upd u3 nq1).other (k := w.heap.size) (j := 17) (by omega) (.slice (some ⟨g', 0, none⟩) n2 c'))
  have y17 := (M2.out.upd u3 nq).cell 17 _ rfl
  have yf := (M2.out.upd u3 nq).free 17
  have KM := hide (M2.out.upd u3 nq).kind
  have KZ := hide (Z2.out.upd u3 nq1).kind
  have U3 : Hid (Upd (fun k => k = b ∨ v2.ownBlock = some k ∨ v3.ownBlock = some k ∨ v4.ownBlock = some k ∨ v5.ownBlock = some k) w (W3.setCell ⟨w.heap.size, 17, none⟩ (.slice (some ⟨g', 0, none⟩) n2 c'))) := ((U2.out.mono (fun k _ h => by rcases h with h | h | h <;> simp [h])).trans (u3.mono (fun k _ h => by rcases h with h | h | h <;> simp [h]))).setCell (p := ⟨w.heap.size, 17, none⟩) (.inr (Nat.le_refl _)) _
  have HN2 := hide N2
  have HN3 := hide N3
  have HG3 := hide G3
  clear M2 Z2 nq nq1 sl3 G3 u3 N2 N3 G2 U2
  go_upto_region 3 with fail
  clear y17 yf
  have e4 : Hid (∃ W4, W4 = W3.setCell ⟨w.heap.size, 17, none⟩ (.slice (some ⟨g', 0, none⟩) n2 c')) := ⟨_, rfl⟩
  obtain ⟨W4, e4⟩ := e4.out
  rw [← e4] at M3 Z3 U3 ⊢
  have E4 := hide e4
  clear e4
  go_wp2_with (first
    | (refine loadM rfl (.tmp 3) rfl w.heap.size m _ _ rfl M3.out ?_)
    | (refine storeM rfl (.tmp 4) (.tmp 15) rfl (w.heap.size + 1) zM m _ _ _ _ rfl rfl Z3.out rfl rfl ?_; intro W5 e5 M5 u5 z5))
  refine bodyPost_ret (results_msg rfl rfl M5) rfl ⟨g, c, g', c', v2', v3', v4', v5', h5, k5, h3, k3, rfl, ?_, ?_, ?_, ?_, ?_, ?_⟩
  · refine HG3.out.upd (S := fun x => x = w.heap.size ∨ x = w.heap.size + 1) (w' := W5) ?_ (by omega) ?_
    · rw [e5, E4.out]
      exact upd_sets (.inr rfl) _ _ _ ((Upd.refl _ _).setCell (p := ⟨w.heap.size, 17, none⟩) (.inl (.inl rfl)) _)
    · rintro k c f T hk hT (rfl | rfl)
      · obtain ⟨c', f', hk'⟩ := KM.out
        rw [hk'] at hk
        injection hk with hk
        injection hk with _ hk
        exact hM T hT hk.symm
      · obtain ⟨c', f', hk'⟩ := KZ.out
        rw [hk'] at hk
        injection hk with hk
        injection hk with _ hk
        exact hM T hT hk.symm
  · rw [e5]
    exact upd_sets' (by omega) _ _ _ U3.out
  · exact HN2.out.imp id (fun ⟨k, h1, h2⟩ => ⟨k, h1, by omega⟩)
  · exact HN3.out.imp id (fun ⟨k, h1, h2⟩ => ⟨k, h1, by omega⟩)
  · exact HN4.out.imp id (fun ⟨k, h1, h2⟩ => ⟨k, h1, by omega⟩)
  · exact HN5.out.imp id (fun ⟨k, h1, h2⟩ => ⟨k, h1, by omega⟩)

end Go.Proofs.Ytgjmiemkjnnepaa
