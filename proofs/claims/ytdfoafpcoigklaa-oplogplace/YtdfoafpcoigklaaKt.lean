import Derived.Test.YtdfoafpcoigklaaKr
namespace Go.Proofs.Ytdfoafpcoigklaa
open Go.RowKit Go.Maps
open Classical
set_option linter.unusedVariables false
set_option linter.unusedSimpArgs false

theorem cmn_self : ∀ A : List En, cmn A A = A.length
  | [] => rfl
  | x :: r => by rw [cmn_cons, if_pos rfl, cmn_self r, List.length_cons]; omega
set_option maxRecDepth 100000 in
set_option maxHeartbeats 2000000 in
theorem compares6_walk (A B : List En) (a b : Option Addr) (ca cb : Nat) (k : Int) (w : World) (h : SlY yE w a A.length ca A) (hm : A.length * 48 ≤ 140737488351232) (h2 : SlY yE w b B.length cb B) (hm2 : B.length * 48 ≤ 140737488351232) :
    Calls Try.prog 7 #[.slice a A.length ca, .slice b B.length cb, .int .i64 k] w fun e w' => e = .returned (.bool true) ∧ Below w.heap.size w w' := by
  have HA := hide h
  have HB := hide h2
  have cg := hide (given6 A a ca w h hm)
  have HM : Hid (A.length * 48 ≤ 140737488355328) := by show _ ≤ _; omega
  have HM2 : Hid (B.length * 48 ≤ 140737488355328) := by show _ ≤ _; omega
  have HM3 := hide hm2
  clear h h2 hm hm2
  go_enter Try.func7, Try.ntmps7
  go_wp2_with fail
  refine cg.out.mono ?_
  rintro e w1 ⟨g, c1, va, vb, g5, k5, rfl, s1, G1, b1⟩
  have z1 := b1.size
  have S1 := hide s1
  have G1h := hide G1
  clear cg G1 s1
  go_wp2_with fail
  refine (given_ent _ w.heap.size (w.heap.size + 1) va vb _ _ b B.length cb B w1 G1h.out (HB.out.later b1) HM3.out (by simp) rfl).mono ?_
  rintro e w2 ⟨h2, c2, va2, vb2, g6, k6, rfl, s2, hg2, G2, U2, _, _⟩
  have b2 : Below w.heap.size w w2 := b1.trans (U2.below (by omega) (fun k hk => by
    rcases hk with rfl | hk | hk
    · exact Nat.le_refl _
    · have := (G1h.out.oa.blk k hk).1; omega
    · have := (G1h.out.ob.blk k hk).1; omega))
  have S2 := hide s2
  have S1b := hide (show SlY yE w2 (some ⟨g, 0, none⟩) A.length c1 A from (G2.da ⟨some ⟨g, 0, none⟩, c1, A ++ [mkE]⟩ (by simp)).front kE rfl)
  have G2h := hide G2
  clear G2 s2 G1h S1 U2 b1 hg2
  have z2 := b2.size
  have c1h := hide (fun (W : World) (hb : Below w2.heap.size w2 W) => commonO_any A B (some ⟨g, 0, none⟩) (some ⟨h2, 0, none⟩) A.length B.length c1 c2 W (S1b.out.later hb) (S2.out.later hb) HM.out)
  have c2h := hide (fun (W : World) (hb : Below w2.heap.size w2 W) => refcom6_any A B a b A.length B.length ca cb W (HA.out.later (b2.trans (hb.mono z2))) (HB.out.later (b2.trans (hb.mono z2))))
  have c3h := hide (fun (W : World) (hb : Below w2.heap.size w2 W) => beginsO_any A B (some ⟨g, 0, none⟩) (some ⟨h2, 0, none⟩) A.length B.length c1 c2 W (S1b.out.later hb) (S2.out.later hb) HM.out)
  have c4h := hide (fun (W : World) (hb : Below w2.heap.size w2 W) => refbeg6_any A B a b A.length B.length ca cb W (HA.out.later (b2.trans (hb.mono z2))) (HB.out.later (b2.trans (hb.mono z2))))
  have c5h := hide (fun (W : World) (hb : Below w2.heap.size w2 W) => beginsO_any B A (some ⟨h2, 0, none⟩) (some ⟨g, 0, none⟩) B.length A.length c2 c1 W (S2.out.later hb) (S1b.out.later hb) HM2.out)
  have c6h := hide (fun (W : World) (hb : Below w2.heap.size w2 W) => refbeg6_any B A b a B.length A.length cb ca W (HB.out.later (b2.trans (hb.mono z2))) (HA.out.later (b2.trans (hb.mono z2))))
  have c7h := hide (fun (W : World) (hb : Below w2.heap.size w2 W) => agreeO_any A B (some ⟨g, 0, none⟩) (some ⟨h2, 0, none⟩) A.length B.length c1 c2 k W (S1b.out.later hb) (S2.out.later hb) HM.out)
  have c8h := hide (fun (W : World) (hb : Below w2.heap.size w2 W) => refagr6_any A B a b A.length B.length ca cb k W (HA.out.later (b2.trans (hb.mono z2))) (HB.out.later (b2.trans (hb.mono z2))))
  have c9h := hide (fun (W : World) (hb : Below w2.heap.size w2 W) => beginsO_any A A (some ⟨g, 0, none⟩) (some ⟨g, 0, none⟩) A.length A.length c1 c1 W (S1b.out.later hb) (S1b.out.later hb) HM.out)
  have hself : decide (cmn A A = A.length) = true := by simp [cmn_self]
  rw [hself] at c9h
  have ci := hide (fun (W : World) (hb : Below w2.heap.size w2 W) => intactE_any w.heap.size (w.heap.size + 1) va2 vb2 _ _ W (G2h.out.bel hb) rfl)
  have HB2 := hide b2
  clear S1b S2 G2h HA HB HM HM2 HM3 b2 hself
  generalize cmn A B = x1 at *
  generalize decide (x1 = A.length) = x2 at *
  generalize decide (cmn B A = B.length) = x3 at *
  generalize decide (0 ≤ k ∧ k ≤ (x1 : Int)) = x4 at *
  generalize A.length = n1 at *
  generalize B.length = n2 at *
  go_wp2_with fail
  refine (c1h.out w2 (Below.refl _ _)).mono ?_
  rintro e w3 ⟨rfl, b3⟩
  go_wp2_with fail
  refine (c2h.out w3 b3).mono ?_
  rintro e w4 ⟨rfl, n4, rfl⟩
  have b4 := belN b3 n4
  go_wp2_with fail
  refine (c3h.out _ b4).mono ?_
  rintro e w5 ⟨rfl, b5⟩
  have b5 := b4.trans (b5.mono b4.size)
  go_wp2_with fail
  refine (c4h.out _ b5).mono ?_
  rintro e w6 ⟨rfl, n6, rfl⟩
  have b6 := belN b5 n6
  go_wp2_with fail
  refine (c5h.out _ b6).mono ?_
  rintro e w7 ⟨rfl, b7⟩
  have b7 := b6.trans (b7.mono b6.size)
  go_wp2_with fail
  refine (c6h.out _ b7).mono ?_
  rintro e w8 ⟨rfl, n8, rfl⟩
  have b8 := belN b7 n8
  go_wp2_with fail
  refine (c7h.out _ b8).mono ?_
  rintro e w9 ⟨rfl, b9⟩
  have b9 := b8.trans (b9.mono b8.size)
  go_wp2_with fail
  refine (c8h.out _ b9).mono ?_
  rintro e w10 ⟨rfl, n10, rfl⟩
  have b10 := belN b9 n10
  go_wp2_with fail
  refine (c9h.out _ b10).mono ?_
  rintro e w11 ⟨rfl, b11⟩
  have b11 := b10.trans (b11.mono b10.size)
  go_wp2_with fail
  refine (ci.out _ b11).mono ?_
  rintro e w12 ⟨rfl, n12, rfl⟩
  have b12 := hide (belN b11 n12)
  go_wp2
  go_ret
  exact ⟨rfl, HB2.out.trans (b12.out.mono (by have := HB2.out.size; omega))⟩
theorem compares6_came (a : Option Addr) (len cap : Nat) (b : Option Addr) (len1 cap1 : Nat) (k : Int) (W : World) (h : CameE W a len cap) (h1 : CameE W b len1 cap1) :
    Calls Try.prog 7 #[.slice a len cap, .slice b len1 cap1, .int .i64 k] W fun e w' => e = .returned (.bool true) ∧ Below W.heap.size W w' := by
  obtain ⟨P, hs, hf, hm⟩ := h
  obtain ⟨P1, hs1, hf1, hm1⟩ := h1
  obtain rfl := hs.len
  obtain rfl := hs1.len
  exact compares6_walk P P1 a b cap cap1 k W hs hm hs1 hm1

end Go.Proofs.Ytdfoafpcoigklaa
