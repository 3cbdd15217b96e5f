import Derived.Test.YtdfoafpcoigklaaKz
import Derived.Test.YtdfoafpcoigklaaKr
namespace Go.Proofs.Ytdfoafpcoigklaa
open Go.RowKit Go.Maps
open Classical
set_option linter.unusedVariables false
set_option linter.unusedSimpArgs false

set_option maxRecDepth 100000 in
set_option maxHeartbeats 1000000 in
theorem refops6_any (L : List En) (a : Option Addr) (n c m : Nat) (w : World) (h : SlY yE w a n c L) (hm : m ≤ n) (hb : n * 48 ≤ 140737488351232) :
    Calls Try.prog 64 #[.slice a n c, .int .i64 (m : Int)] w fun e w' => ∃ v, e = .returned v ∧ OwnY yO w.heap.size w' v ((L.take m).map En.o) ∧ Below w.heap.size w w' := by
  have hln := h.len
  have hcp := h.cap
  have hmx := h.max
  unfold maxLen at hmx
  have H := hide h
  have HN := hide hln
  clear h hln
  go_enter Try.func64, Try.ntmps64
  go_wp2
  go_loopw [6, 5] (fun i v wr => ∃ j : Nat, i = .int .i64 (j : Int) ∧ j ≤ m ∧ OwnY yO w.heap.size wr v ((L.take j).map En.o) ∧ Below w.heap.size w wr) (fun i _ _ => m - (intOf i).toNat)
  case atStart => exact ⟨0, rfl, Nat.zero_le _, by rw [List.take_zero, List.map_nil]; exact OwnY.nil _ _ _, Below.refl _ _⟩
  case round =>
    obtain ⟨j, rfl, hj, ho, hb2⟩ := hrel
    rename_i vv
    have hz := hb2.size
    by_cases hlt : j < m
    · have hjl : j < L.length := by rw [HN.out]; omega
      have hjn : j < n := by omega
      have hg : L[j]? = some L[j] := List.getElem?_eq_getElem hjl
      obtain ⟨q, o, rfl, hq, _, _, c2, c3, c4⟩ := (H.out.later hb2).en hg
      have HTK : Hid ((L.take (j + 1)).map En.o = (L.take j).map En.o ++ [L[j].o]) := by
        show _ = _
        rw [List.take_add_one, hg]
        show List.map En.o (L.take j ++ [L[j]]) = _
        rw [List.map_append]
        rfl
      have HLI : Hid (((L.take j).map En.o).length = j) := by show _ = _; rw [List.length_map, List.length_take]; omega
      have O2 := hide ho
      obtain ⟨av, cv, hv0, _⟩ := ho.form
      rw [HLI.out] at hv0
      clear ho hg
      generalize L[j] = x at *
      obtain ⟨xc, xn, ⟨ok, os, ov⟩⟩ := x
      dsimp only at *
      subst hv0
      have SB : Hid (SlY yO (wr.alloc (.cells #[.int .i64 ok, .int .i64 os, .string ov] 39)) (some ⟨wr.heap.size, 0, none⟩) 1 1 [⟨ok, os, ov⟩]) := sl_box (Y := yO) wr ⟨ok, os, ov⟩ 39
      go_wp2_with (at_builtin; go_must (refine appY kO _ rfl (.tmp 12) (.tmp 18) rfl w.heap.size ((L.take j).map En.o) (.slice av j cv) rfl (some ⟨wr.heap.size, 0, none⟩) 1 1 rfl [⟨ok, os, ov⟩] SB.out (O2.out.alloc _) (by simp; omega) (by rw [HLI.out]; unfold maxLen; omega) (by rw [HLI.out]; show _ * 32 ≤ _; omega) ?_))
      intro v5 w5 o5 g5 n5
      have b5 : Below w.heap.size w w5 := (O2.out.alloc _).grown (hb2.alloc hz _) g5 (by simp; omega)
      have o5 : OwnY yO w.heap.size w5 v5 ((L.take (j + 1)).map En.o) := by
        rw [HTK.out]
        simpa using o5
      have O5 := hide o5
      clear o5 g5 n5 SB
      go_wp2
      go_round
      case rel => exact ⟨j + 1, by go_num, by omega, O5.out, b5⟩
      case measure => simp [intOf]; omega
    · obtain rfl : j = m := by omega
      have O2 := hide ho
      clear ho
      go_wp2
      go_ret
      exact ⟨_, rfl, O2.out, hb2⟩
set_option maxRecDepth 100000 in
set_option maxHeartbeats 1000000 in
theorem refreplay6_any (L : List En) (a : Option Addr) (n c : Nat) (k : Int) (w : World) (h : SlY yE w a n c L) (hf : ∀ e ∈ L, e.fits) (hb : n * 48 ≤ 140737488351232) :
    Calls Try.prog 41 #[.slice a n c, .int .i64 k] w fun e w' => ∃ vc vr, e = .returned (.tuple #[vc, vr, .int .i64 (ctE L k)]) ∧ OwnC w.heap.size w' vc (pl [] ((ctL L k).map En.o)) ∧ Own3 78 w.heap.size w' vr (rl [] ((ctL L k).map En.o)) ∧ Below w.heap.size w w' := by
  have hln := h.len
  have hcp := h.cap
  have hmx := h.max
  unfold maxLen at hmx
  by_cases h1 : k < 0
  · have e1 : Hid (ctE L k = 61) := by show _ = _; simp [ctE, h1]
    have e2 : Hid (ctL L k = []) := by show _ = _; simp [ctL, h1]
    rw [e1.out, e2.out]
    have d1 : decide (k < 0) = true := by simpa using h1
    clear h
    go_enter Try.func41, Try.ntmps41
    go_wp2
    go_ret3
    exact ⟨_, _, rfl, OwnC.nil _ _, Own3.nil _ _ _, Below.refl _ _⟩
  · by_cases h2 : (n : Int) < k
    · have e1 : Hid (ctE L k = 61) := by show _ = _; simp [ctE, hln, h2]
      have e2 : Hid (ctL L k = []) := by show _ = _; simp [ctL, hln, h2]
      rw [e1.out, e2.out]
      clear h
      go_enter Try.func41, Try.ntmps41
      go_wp2
      go_ret3
      exact ⟨_, _, rfl, OwnC.nil _ _, Own3.nil _ _ _, Below.refl _ _⟩
    · obtain ⟨m, rfl⟩ : ∃ m : Nat, k = (m : Int) := ⟨k.toNat, by omega⟩
      have hm : m ≤ n := by omega
      have e1 : Hid (ctE L m = 0) := by show _ = _; simp [ctE, hln]; omega
      have e2 : Hid (ctL L m = L.take m) := by show _ = _; simp [ctL, hln]; omega
      rw [e1.out, e2.out]
      have HF : Hid (∀ p ∈ (L.take m).map En.o, p.fits) := by
        intro p hp
        obtain ⟨e, he, rfl⟩ := List.mem_map.1 hp
        exact (hf e (List.mem_of_mem_take he)).ow
      have HLT : Hid (((L.take m).map En.o).length = m) := by show _ = _; rw [List.length_map]; exact (h.take m hm).len
      have C1 := hide (refops6_any L a n c m w h hm hb)
      clear h hln hf e1 e2
      generalize (L.take m).map En.o = D at *
      go_enter Try.func41, Try.ntmps41
      go_wp2_with fail
      refine C1.out.mono ?_
      rintro e w1 ⟨v1, rfl, o1, b1⟩
      have z1 := b1.size
      obtain ⟨av, cv, hv, _⟩ := o1.form
      have CR := hide (refreplay_any D av cv w1 ((hv ▸ o1).sl' kO).ops HF.out (by rw [HLT.out]; omega))
      generalize D.length = dl at *
      subst hv
      clear C1 o1
      go_wp2_with fail
      refine CR.out.mono ?_
      rintro e w2 ⟨vc, vr, rfl, oc, orr, b2⟩
      have OC := hide (oc.low z1)
      have OR := hide (orr.low z1)
      clear CR oc orr
      go_wp2
      go_ret3
      exact ⟨_, _, rfl, OC.out, OR.out, b1.trans (b2.mono z1)⟩
set_option maxRecDepth 100000 in
set_option maxHeartbeats 2000000 in
theorem replays6_walk (L : List En) (a : Option Addr) (c : Nat) (k : Int) (w : World) (h : SlY yE w a L.length c L) (hf : ∀ e ∈ L, e.fits) (hm : L.length * 48 ≤ 140737488351232) :
    Calls Try.prog 9 #[.slice a L.length c, .int .i64 k] w fun e w' => e = .returned (.bool true) ∧ Below w.heap.size w w' := by
  have H := hide h
  have cg := hide (given6 L a c w h hm)
  have HM := hide hm
  have HF := hide hf
  clear h hm hf
  go_enter Try.func9, Try.ntmps9
  go_wp2_with fail
  refine cg.out.mono ?_
  rintro e w1 ⟨g, c1, va, vb, g5, k5, rfl, s1, G1, b1⟩
  have z1 := b1.size
  have S1 := hide s1
  have G1h := hide G1
  clear cg G1 s1
  go_wp2_with fail
  refine (replayO_any L (some ⟨g, 0, none⟩) L.length c1 k w1 S1.out HF.out HM.out).mono ?_
  rintro e w2 ⟨vc, vr, rfl, oc, orr, b2⟩
  have OC2 := hide oc
  have OR2 := hide orr
  have B2 := hide (b1.trans (b2.mono z1))
  clear oc orr
  go_wp2_with fail
  refine (refreplay6_any L a L.length c k w2 (H.out.later B2.out) HF.out HM.out).mono ?_
  rintro e w3 ⟨vd, vs, rfl, od, os_, b3⟩
  have G3 := hide ((G1h.out.bel b2).bel b3)
  have B3 := hide (B2.out.trans (b3.mono B2.out.size))
  have OC3 := OC2.out.upd (S := fun _ => False) (Upd.of_below b3) (fun _ _ h => h)
  obtain ⟨a2, c2, sl2, _⟩ := OC3.sl
  obtain ⟨a3, c3, sl3, _⟩ := od.sl
  have hv2 := sl2.form
  have hv3 := sl3.form
  have CS := hide (samecells_any _ _ a2 a3 c2 c3 w3 (hv2 ▸ sl2) (hv3 ▸ sl3))
  rw [decide_eq_true rfl] at CS
  have CRS := hide (fun n => sameres_own _ _ _ vr vs (w3.drewN n) ((OR2.out.grow b3).grow (belN (Below.refl _ _) n)) (os_.grow (belN (Below.refl _ _) n)))
  have ci := hide (fun (W : World) (hb : Below w3.heap.size w3 W) => intactE_any w.heap.size (w.heap.size + 1) va vb _ _ W (G3.out.bel hb) rfl)
  have cw := hide (fun W => works6_any W)
  clear OC2 OC3 OR2 od os_ sl2 sl3 G1h b2 b3 b1 S1 G3 HF HM H
  generalize ctE L k = x1 at *
  generalize (pl [] ((ctL L k).map En.o)).length = m1 at *
  subst hv2 hv3
  go_wp2_with fail
  refine CS.out.mono ?_
  rintro e w4 ⟨rfl, n4, rfl⟩
  go_wp2_with fail
  refine (CRS.out n4).mono ?_
  rintro e w5 ⟨rfl, b5⟩
  have B5 : Below w3.heap.size w3 w5 := (belN (Below.refl _ _) n4).trans (b5.mono (Nat.le_refl _))
  go_wp2_with (first
    | (go_at_call 19; refine (ci.out w5 B5).mono ?_; rintro e w8 ⟨rfl, n8, rfl⟩)
    | (go_at_call 20; refine (cw.out _).mono ?_; rintro e w9 ⟨rfl, b9⟩))
  go_ret
  exact ⟨rfl, (B3.out.trans ((belN B5 n8).mono B3.out.size)).trans (b9.mono (by have := B3.out.size; have := B5.size; show w.heap.size ≤ w5.heap.size; omega))⟩
theorem replays6_came (a : Option Addr) (len cap : Nat) (k : Int) (W : World) (h : CameE W a len cap) :
    Calls Try.prog 9 #[.slice a len cap, .int .i64 k] W fun e w' => e = .returned (.bool true) ∧ Below W.heap.size W w' := by
  obtain ⟨P, hs, hf, hm⟩ := h
  obtain rfl := hs.len
  exact replays6_walk P a cap k W hs hf hm

end Go.Proofs.Ytdfoafpcoigklaa
