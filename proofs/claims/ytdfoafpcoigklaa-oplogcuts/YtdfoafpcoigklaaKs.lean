import Derived.Test.YtdfoafpcoigklaaKr
namespace Go.Proofs.Ytdfoafpcoigklaa
open Go.RowKit Go.Maps
open Classical
set_option linter.unusedVariables false
set_option linter.unusedSimpArgs false

set_option maxRecDepth 100000 in
set_option maxHeartbeats 2000000 in
theorem cuts6_walk (L : List En) (a : Option Addr) (c : Nat) (k : Int) (hk : (Lit.int .i64 k).wf = true) (w : World) (h : SlY yE w a L.length c L) (hm : L.length * 48 ≤ 140737488351232) :
    Calls Try.prog 5 #[.slice a L.length c, .int .i64 k] w fun e w' => e = .returned (.bool true) ∧ Below w.heap.size w w' := by
  have H := hide h
  have cg := hide (given6 L a c w h hm)
  have HK := hide hk
  have HM : Hid (L.length * 48 ≤ 140737488355328) := by show _ ≤ _; omega
  clear h hk hm
  go_enter Try.func5, Try.ntmps5
  go_wp2_with fail
  refine cg.out.mono ?_
  rintro e w1 ⟨g, c1, va, vb, g5, k5, rfl, s1, G1, b1⟩
  have z1 := b1.size
  have S1 := hide s1
  have G1h := hide G1
  clear cg G1 s1
  go_wp2_with fail
  refine (cutO_any L (some ⟨g, 0, none⟩) L.length c1 k w1 S1.out HM.out).mono ?_
  rintro e w2 ⟨v2, rfl, o2, b2⟩
  have O2 := hide o2
  have hv2 := o2.form
  clear o2
  have bb2 := b1.trans (b2.mono z1)
  have z2 := bb2.size
  obtain ⟨a2, c2, hv2, _⟩ := hv2
  generalize (ctL L k).length = m2 at hv2
  subst hv2
  go_wp2_with fail
  refine (refcut6_any L a L.length c k w2 (H.out.later bb2) HM.out).mono ?_
  rintro e w3 ⟨v3, rfl, o3, b3⟩
  have O3 := hide o3
  have hv3 := o3.form
  clear o3
  have bb3 := bb2.trans (b3.mono z2)
  have z3 := bb3.size
  obtain ⟨a3, c3, hv3, _⟩ := hv3
  generalize (ctL L k).length = m3 at hv3
  subst hv3
  go_wp2_with fail
  refine (tailO_any L (some ⟨g, 0, none⟩) L.length c1 k w3 ((S1.out.later b2).later b3) HM.out).mono ?_
  rintro e w4 ⟨v4, rfl, o4, b4⟩
  have O4 := hide o4
  have hv4 := o4.form
  clear o4
  have bb4 := bb3.trans (b4.mono z3)
  have z4 := bb4.size
  obtain ⟨a4, c4, hv4, _⟩ := hv4
  generalize (tlL L k).length = m4 at hv4
  subst hv4
  go_wp2_with fail
  refine (reftail6_any L a L.length c k HK.out w4 (H.out.later bb4) HM.out).mono ?_
  rintro e w5 ⟨v5, rfl, o5, b5⟩
  have O5 := hide o5
  have hv5 := o5.form
  clear o5
  have bb5 := bb4.trans (b5.mono z4)
  obtain ⟨a5, c5, hv5, _⟩ := hv5
  generalize (tlL L k).length = m5 at hv5
  subst hv5
  have G5 := hide ((((G1h.out.bel b2).bel b3).bel b4).bel b5)
  have Q2 := hide ((((O2.out.grow b3).grow b4).grow b5).sl' kE)
  have Q3 := hide (((O3.out.grow b4).grow b5).sl' kE)
  have Q4 := hide ((O4.out.grow b5).sl' kE)
  have Q5 := hide (O5.out.sl' kE)
  obtain rfl : m2 = (ctL L k).length := Q2.out.len.symm
  obtain rfl : m3 = (ctL L k).length := Q3.out.len.symm
  obtain rfl : m4 = (tlL L k).length := Q4.out.len.symm
  obtain rfl : m5 = (tlL L k).length := Q5.out.len.symm
  have HB := hide bb5
  have c1h := hide (sameents_any (ctL L k) a2 a3 c2 c3 w5 Q2.out Q3.out)
  have c2h := fun n => hide (sameents_any (tlL L k) a4 a5 c4 c5 (w5.drewN n) (Q4.out.drewN n) (Q5.out.drewN n))
  have ci := fun n => hide (intactE_any w.heap.size (w.heap.size + 1) va vb _ _ (w5.drewN n) (G5.out.bel (belN (Below.refl _ _) n)) rfl)
  have cw := hide (fun W => works6_any W)
  clear b2 b3 b4 b5 bb2 bb3 bb4 bb5 O2 O3 O4 O5 Q2 Q3 Q4 Q5 S1 G1h G5 H HK HM b1
  generalize (ctL L k).length = m2 at *
  generalize (tlL L k).length = m4 at *
  generalize ctE L k = x1 at *
  generalize tlE L k = x2 at *
  go_wp2_with fail
  refine c1h.out.mono ?_
  rintro e w6 ⟨rfl, n6, rfl⟩
  go_wp2_with fail
  refine (c2h n6).out.mono ?_
  rintro e w7 ⟨rfl, n7, rfl⟩
  go_wp2_with (first
    | (go_at_call 19; refine (ci (n6 + n7)).out.mono ?_; rintro e w8 ⟨rfl, n8, rfl⟩)
    | (go_at_call 20; refine (cw.out _).mono ?_; rintro e w9 ⟨rfl, b9⟩))
  go_ret
  exact ⟨rfl, (belN HB.out (n6 + n7 + n8)).trans (b9.mono (by have := HB.out.size; show w.heap.size ≤ w5.heap.size; omega))⟩
theorem cuts6_came (a : Option Addr) (len cap : Nat) (k : Int) (W : World) (h : CameE W a len cap) (hk : (Lit.int .i64 k).wf = true) :
    Calls Try.prog 5 #[.slice a len cap, .int .i64 k] W fun e w' => e = .returned (.bool true) ∧ Below W.heap.size W w' := by
  obtain ⟨P, hs, hf, hm⟩ := h
  obtain rfl := hs.len
  exact cuts6_walk P a cap k hk W hs hm

end Go.Proofs.Ytdfoafpcoigklaa
