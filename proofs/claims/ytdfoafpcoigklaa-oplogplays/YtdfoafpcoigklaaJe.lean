import Derived.Test.YtdfoafpcoigklaaJc
import Derived.Test.YtdfoafpcoigklaaJd
import Derived.Test.YtdfoafpcoigklaaJr
import Derived.Test.YtdfoafpcoigklaaJm
namespace Go.Proofs.Ytdfoafpcoigklaa
open Go.RowKit Go.Maps
open Classical
set_option linter.unusedVariables false
set_option linter.unusedSimpArgs false

theorem neqC (a : Int) (v : ByteArray) (w : World) : (binOp .neq 76 (.agg #[.int .i64 a, .string v]) (.agg #[.int .i64 a, .string v])).run Try.prog w = .ok (.bool false) w := by
  go_simp
theorem OwnC.bel2 {B : Nat} {w w' : World} {v : Value} {D : List Cl} (h : OwnC B w v D) (hb : Below w.heap.size w w') : OwnC B w' v D := h.upd (S := fun _ => False) (Upd.of_below hb) (fun _ _ h => h)
theorem OwnC.at2 {B : Nat} {w : World} {a : Option Addr} {n c : Nat} {D : List Cl} (h : OwnC B w (.slice a n c) D) {i : Nat} {d : Cl} (hd : D[i]? = some d) : ∃ g, a = some ⟨g, 0, none⟩ ∧ w.cell? ⟨g, i * 2, none⟩ = some (.int .i64 d.1) ∧ w.cell? ⟨g, i * 2 + 1, none⟩ = some (.string d.2) := by
  obtain ⟨a', c', e, _, _, h3, h4⟩ := h.form
  injection e with e1 e2 e3
  subst e1
  cases a with
  | none => rw [(h3 rfl).1] at hd; simp at hd
  | some x =>
    obtain ⟨g, rfl, _⟩ := h4 x rfl
    exact ⟨g, rfl, h.cell i d hd⟩
set_option maxRecDepth 100000 in
set_option maxHeartbeats 4000000 in
theorem plays6_walk (R : List En) (a : Option Addr) (n c : Nat) (k1 k2 : Int) (hk1 : (Lit.int .i64 k1).wf = true) (hk2 : (Lit.int .i64 k2).wf = true) (w : World) (h : SlY yW w a n c R) (hf : ∀ e ∈ R, e.fits) :
    Calls Try.prog 14 #[.slice a n c, .int .i64 k1, .int .i64 k2] w fun e w' => e = .returned (.bool true) ∧ Below w.heap.size w w' := by
  have cg := hide (grown_any R a n c 256 (by omega) (by omega) w h hf)
  have HK1 := hide hk1
  have HK2 := hide hk2
  clear h hf hk1 hk2
  go_enter Try.func14, Try.ntmps14
  go_wp2_with fail
  refine cg.out.mono ?_
  rintro e w1 ⟨v, L, rfl, o1, hG, b1⟩
  obtain ⟨al, cl, hv0, hlc, hcm, _⟩ := o1.form
  obtain ⟨ll, hll⟩ : ∃ ll, L.length = ll := ⟨_, rfl⟩
  have hl256 := (chk_zero hG.ok).1
  rw [hll] at hv0 hlc hl256
  subst hv0
  have HLL := hide hll
  have O1 := hide o1
  have HG := hide hG
  unfold maxLen at hcm
  clear o1 hll hG cg
  go_wp2_with fail
  refine (works6_any w1).mono ?_
  rintro e w2 ⟨rfl, b2⟩
  have B2 := hide (b1.trans (b2.mono b1.size))
  have S2 := hide ((O1.out.grow b2).sl' kE)
  clear O1 b1 b2
  go_wp2_with fail
  refine (within6_any k1 (ll : Int) HK1.out (by omega) (by omega) w2).mono ?_
  rintro e w3 ⟨r1, rfl, ⟨p0, p1⟩, hw3⟩
  subst hw3
  obtain ⟨n1, rfl⟩ : ∃ n1 : Nat, r1 = (n1 : Int) := ⟨r1.toNat, by omega⟩
  have hn1 : n1 ≤ ll := by omega
  go_wp2_with fail
  refine (within6_any k2 ((ll : Int) - (n1 : Int)) HK2.out (by omega) (by omega) _).mono ?_
  rintro e w4 ⟨r2, rfl, ⟨p2, p3⟩, hw4⟩
  subst hw4
  obtain ⟨d2, rfl⟩ : ∃ d2 : Nat, r2 = (d2 : Int) := ⟨r2.toNat, by omega⟩
  have hn2 : n1 + d2 ≤ ll := by omega
  have hct : ∀ m : Nat, m ≤ ll → ctE L (m : Int) = 0 ∧ ctL L (m : Int) = L.take m := fun m hm => by
    have := HLL.out
    constructor
    · simp [ctE, this]; omega
    · simp [ctL, this]; omega
  have C1 := replayO_any L al ll cl (n1 : Int) w4 S2.out HG.out.fit (by omega)
  rw [(hct n1 hn1).1, (hct n1 hn1).2] at C1
  have HC1 := hide C1
  have HC2 : Hid (∀ (W : World), Below w4.heap.size w4 W → Calls Try.prog 40 #[.slice al ll cl, .int .i64 ((n1 : Int) + (d2 : Int))] W fun e w' => ∃ vc vr, e = .returned (.tuple #[vc, vr, .int .i64 0]) ∧ OwnC W.heap.size w' vc (pl [] ((L.take (n1 + d2)).map En.o)) ∧ Own3 78 W.heap.size w' vr (rl [] ((L.take (n1 + d2)).map En.o)) ∧ Below W.heap.size W w') := fun W hb => by
    have := replayO_any L al ll cl ((n1 + d2 : Nat) : Int) W (S2.out.later hb) HG.out.fit (by omega)
    rw [(hct (n1 + d2) hn2).1, (hct (n1 + d2) hn2).2, show ((n1 + d2 : Nat) : Int) = (n1 : Int) + (d2 : Int) by omega] at this
    exact this
  -- what the mathematics says
  obtain ⟨OP, hOP⟩ : ∃ OP, L.map En.o = OP := ⟨_, rfl⟩
  have em : ∀ m : Nat, (L.take m).map En.o = OP.take m := fun m => by rw [← hOP, List.map_take]
  have hOl : OP.length = ll := by rw [← hOP, List.length_map]; exact HLL.out
  rw [em] at HC1
  rw [em] at HC2
  have hsub := pl_take_sub OP (show n1 ≤ n1 + d2 by omega)
  have hok := (Ok.nil.pl (OP.take (n1 + d2))).up
  have hwl := wc1_pl (OP.take (n1 + d2)) []
  have hpre : rl [] (OP.take n1) = (rl [] (OP.take (n1 + d2))).take n1 := by
    rw [← rl_take_le, List.take_take, Nat.min_eq_left (by omega)]
  have hl1 : (rl [] (OP.take n1)).length = n1 := by rw [rl_length, List.length_take]; omega
  have hl2 : (rl [] (OP.take (n1 + d2))).length = n1 + d2 := by rw [rl_length, List.length_take]; omega
  generalize pl [] (OP.take n1) = A at *
  generalize pl [] (OP.take (n1 + d2)) = CC at *
  generalize rl [] (OP.take n1) = D1 at *
  generalize rl [] (OP.take (n1 + d2)) = D2 at *
  have HSUB := hide hsub
  have HOK := hide hok
  have HWL : Hid (CC.length = wc1 D2) := by show _ = _; rw [hwl]; simp
  have HPRE := hide hpre
  have HL1 := hide hl1
  have HL2 := hide hl2
  clear C1 hct hOP em hOl hsub hok hwl hpre hl1 hl2 p2 p3 p0 p1
  go_wp2_with fail
  refine HC1.out.mono ?_
  rintro e w5 ⟨va, vb, rfl, oa, ob, b5⟩
  have HB5 := hide b5
  clear HC1
  go_wp2_with fail
  refine (HC2.out w5 HB5.out).mono ?_
  rintro e w6 ⟨vc, vd, rfl, oc, od, b6⟩
  have OA := hide (oa.bel2 b6)
  have OB := hide (ob.grow b6)
  have OC := hide oc
  have OD := hide od
  obtain ⟨aa, ca, hva, hca1, hca2, _⟩ := OA.out.form
  obtain ⟨ab, cb, hvb, hcb1, hcb2, _⟩ := OB.out.form
  obtain ⟨ac, cc, hvc, hcc1, hcc2, _⟩ := OC.out.form
  obtain ⟨ad, cd, hvd, hcd1, hcd2, _⟩ := OD.out.form
  obtain ⟨la, hla⟩ : ∃ la, A.length = la := ⟨_, rfl⟩
  obtain ⟨lc, hlc2⟩ : ∃ lc, CC.length = lc := ⟨_, rfl⟩
  rw [hla] at hva hca1
  rw [hlc2] at hvc hcc1
  rw [HL1.out] at hvb hcb1
  rw [HL2.out] at hvd hcd1
  subst hva hvb hvc hvd
  have HLA := hide hla
  have HLC := hide hlc2
  have HB6 := hide (B2.out.trans ((HB5.out.trans (b6.mono HB5.out.size)).mono B2.out.size))
  have CS : Hid (Calls Try.prog 43 #[.slice ad n1 cd, .slice ab n1 cb] w6 fun e w' => e = .returned (.bool true) ∧ Below w6.heap.size w6 w') := by
    have h1 : Row3 w6 ad D1 := by
      have := OD.out.row
      rw [← List.take_append_drop n1 D2, ← HPRE.out] at this
      exact this.pre
    have := sameres_lie D1 ad ab cd cb (by rw [HL1.out]; omega) hcd2 (by rw [HL1.out]; exact hcb1) hcb2 w6 h1 OB.out.row
    rw [HL1.out] at this
    exact this
  unfold maxLen at hca2 hcb2 hcc2 hcd2
  clear oa ob oc od hla hlc2 b6 HB5 b5 HC2 S2 B2 OB
  go_wp2_with fail
  refine CS.out.mono ?_
  rintro e w7 ⟨rfl, b7⟩
  have OA7 := hide (OA.out.bel2 b7)
  have OC7 := hide (OC.out.bel2 b7)
  have OD7 := hide (OD.out.grow b7)
  have HB7 := hide (HB6.out.trans (b7.mono HB6.out.size))
  have hlc256 : lc ≤ 1024 := by
    have h1 := HWL.out
    have h2 : wc1 D2 ≤ D2.length := List.length_filter_le _ _
    rw [HL2.out] at h2
    rw [HLC.out] at h1
    omega
  have hla256 : la ≤ lc := by
    have := HSUB.out.length_le
    rw [HLA.out, HLC.out] at this
    exact this
  clear CS OA OC OD HB6 b7
  go_wp2
  go_loopw [16, 15] (fun i kk wr => ∃ i' k' q : Nat, i = .int .i64 (i' : Int) ∧ i' ≤ lc ∧ kk = .int .i64 (k' : Int) ∧ k' ≤ la ∧ Hid ((A.drop k').Sublist (CC.drop i')) ∧ wr = w7.drewN q) (fun i _ _ => lc - (intOf i).toNat)
  case atStart => exact ⟨0, 0, 0, rfl, Nat.zero_le _, rfl, Nat.zero_le _, HSUB, rfl⟩
  case round =>
    obtain ⟨i', k', q, rfl, hi', rfl, hk', hS, rfl⟩ := hrel
    by_cases hlt : i' < lc
    · have hiC : i' < CC.length := by rw [HLC.out]; exact hlt
      have hx : CC[i']? = some CC[i'] := List.getElem?_eq_getElem hiC
      obtain ⟨st1, st2⟩ := sub_step HOK.out hx hS.out
      obtain ⟨gc, rfl, x0, x1⟩ := OC7.out.at2 hx
      generalize CC[i'] = x at *
      obtain ⟨xs, xv⟩ := x
      dsimp only at x0 x1 st1 st2
      by_cases hkl : k' < la
      · have hkA : k' < A.length := by rw [HLA.out]; exact hkl
        have hy : A[k']? = some A[k'] := List.getElem?_eq_getElem hkA
        obtain ⟨ga, rfl, y0, y1⟩ := OA7.out.at2 hy
        generalize A[k'] = y at *
        obtain ⟨ys, yv⟩ := y
        dsimp only at y0 y1
        by_cases hs : ys = xs
        · obtain ⟨he, hS2⟩ := st1 _ hy hs
          cases he
          have HS2 := hide hS2
          have qe := fun W => neqC xs xv W
          clear st1 st2 hx hy hS2
          go_wp2
          go_quiet (fail)
          go_wp2
          go_quiet (fail)
          go_wp2
          exact ⟨⟨i' + 1, k' + 1, _, by go_num, by omega, by go_num, by omega, HS2, rfl⟩, by simp [intOf]; omega⟩
        · have HS2 := hide (st2 (fun y' hy' => by rw [hy] at hy'; cases hy'; exact hs))
          have hd : decide (ys = xs) = false := by simpa using hs
          clear st1 st2 hx hy
          go_wp2
          go_quiet (fail)
          go_wp2
          go_round
          case rel => exact ⟨i' + 1, k', q + nq, by go_num, by omega, rfl, hk', HS2, by simp⟩
          case measure => simp [intOf]; omega
      · have HS2 := hide (st2 (fun y' hy' => by have := (List.getElem?_eq_some_iff.1 hy').1; rw [HLA.out] at this; omega))
        have hd : decide ((k' : Int) < (la : Int)) = false := by simp; omega
        clear st1 st2 hx
        go_wp2
        go_quiet (fail)
        go_wp2
        go_round
        case rel => exact ⟨i' + 1, k', q + nq, by go_num, by omega, rfl, hk', HS2, by simp⟩
        case measure => simp [intOf]; omega
    · obtain rfl : i' = lc := by omega
      have hke : k' = la := by
        have := hS.out.length_le
        rw [List.length_drop, List.length_drop, HLA.out, HLC.out] at this
        omega
      subst hke
      have HWB : Hid (∀ j, wc1 (D2.take j) ≤ 1024) := fun j => by
        have h2 : wc1 (D2.take j) ≤ (D2.take j).length := List.length_filter_le _ _
        have h3 : (D2.take j).length ≤ D2.length := by rw [List.length_take]; omega
        rw [HL2.out] at h3
        omega
      go_wp2
      go_loopw [18, 17] (fun i ww wr => ∃ j : Nat, i = .int .i64 (j : Int) ∧ j ≤ n1 + d2 ∧ ww = .int .i64 ((wc1 (D2.take j) : Nat) : Int) ∧ wr = w7.drewN q) (fun i _ _ => n1 + d2 - (intOf i).toNat)
      case atStart => exact ⟨0, rfl, Nat.zero_le _, rfl, rfl⟩
      case round =>
        obtain ⟨j, rfl, hj, rfl, rfl⟩ := hrel
        by_cases hjl : j < n1 + d2
        · have hjD : j < D2.length := by rw [HL2.out]; exact hjl
          have hr : D2[j]? = some D2[j] := List.getElem?_eq_getElem hjD
          have hst := wc1_take hr
          have hwb := HWB.out j
          obtain ⟨gd, rfl, z0, _, _⟩ := OD7.out.row j _ hr
          generalize D2[j] = d at *
          have HST := hide hst
          clear hst hr
          generalize wc1 (D2.take j) = G at *
          by_cases hc : d.1 = 1
          · have hE : Hid (G + 1 = wc1 (D2.take (j + 1))) := by show _ = _; rw [HST.out]; simp [hc]
            rw [hc] at z0
            go_wp2
            go_round
            case rel => exact ⟨j + 1, by go_num, by omega, by rw [← hE.out]; go_num, trivial⟩
            case measure => simp [intOf]; omega
          · have hE : Hid (G = wc1 (D2.take (j + 1))) := by show _ = _; rw [HST.out]; simp [hc]
            have hd : decide (d.1 = 1) = false := by simpa using hc
            go_wp2
            go_round
            case rel => exact ⟨j + 1, by go_num, by omega, by rw [← hE.out], trivial⟩
            case measure => simp [intOf]; omega
        · obtain rfl : j = n1 + d2 := by omega
          have hw : wc1 (D2.take (n1 + d2)) = i' := by rw [List.take_of_length_le (by rw [HL2.out]; exact Nat.le_refl _), ← HWL.out, HLC.out]
          rw [hw]
          go_wp2
          go_ret
          exact ⟨rfl, belN HB7.out q⟩
theorem plays6_came (a : Option Addr) (len cap : Nat) (k1 k2 : Int) (W : World) (h : CameR W a len cap) (hk1 : (Lit.int .i64 k1).wf = true) (hk2 : (Lit.int .i64 k2).wf = true) :
    Calls Try.prog 14 #[.slice a len cap, .int .i64 k1, .int .i64 k2] W fun e w' => e = .returned (.bool true) ∧ Below W.heap.size W w' := by
  obtain ⟨P, hs, hf, hm⟩ := h
  exact plays6_walk P a len cap k1 k2 hk1 hk2 W hs hf

end Go.Proofs.Ytdfoafpcoigklaa
