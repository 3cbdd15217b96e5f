import Derived.Test.YtdfoafpcoigklaaJc
import Derived.Test.YtdfoafpcoigklaaJd
import Derived.Test.YtdfoafpcoigklaaJf
import Derived.Test.YtdfoafpcoigklaaKt
namespace Go.Proofs.Ytdfoafpcoigklaa
open Go.RowKit Go.Maps
open Classical
set_option linter.unusedVariables false
set_option linter.unusedSimpArgs false

theorem cmn_comm : ∀ A B : List En, cmn A B = cmn B A
  | [], B => by cases B <;> rfl
  | a :: r, [] => rfl
  | a :: r, b :: s => by
    rw [cmn_cons, cmn_cons, cmn_comm r s]
    by_cases h : a = b
    · rw [if_pos h, if_pos h.symm]
    · rw [if_neg h, if_neg (fun e => h e.symm)]
theorem cmn_app : ∀ (X A B : List En), cmn (X ++ A) (X ++ B) = X.length + cmn A B
  | [], A, B => by simp
  | x :: X, A, B => by
    rw [List.cons_append, List.cons_append, cmn_cons, if_pos rfl, cmn_app X A B, List.length_cons]
    omega
theorem cmn_pre (X B : List En) : cmn X (X ++ B) = X.length := by
  have := cmn_app X [] B
  rw [List.append_nil] at this
  rw [this]
  cases B <;> simp [cmn]
theorem cmn_take (L : List En) {p q : Nat} (hp : p ≤ L.length) (hq : q ≤ L.length) : cmn (L.take p) (L.take q) = min p q := by
  by_cases h : p ≤ q
  · have e : L.take q = L.take p ++ (L.take q).drop p := by
      conv => lhs; rw [← List.take_append_drop p (L.take q)]
      rw [List.take_take, Nat.min_eq_left h]
    rw [e, cmn_pre, List.length_take]
    omega
  · have e : L.take p = L.take q ++ (L.take p).drop q := by
      conv => lhs; rw [← List.take_append_drop q (L.take p)]
      rw [List.take_take, Nat.min_eq_left (by omega)]
    rw [cmn_comm, e, cmn_pre, List.length_take]
    omega
/-- The last entry turned. -/
theorem cmn_turn {L : List En} {p q : Nat} (hp : p ≤ L.length) (hq : q ≤ L.length) (hq0 : 0 < q) {x y : En} (hx : L[q - 1]? = some x) (hy : x ≠ y) : cmn (L.take p) ((L.take q).set (q - 1) y) = if q ≤ p then q - 1 else p := by
  have hxl := (List.getElem?_eq_some_iff.1 hx).1
  have e1 : L.take q = L.take (q - 1) ++ [x] := by
    have : q = q - 1 + 1 := by omega
    conv => lhs; rw [this, List.take_add_one, hx]
    rfl
  have hl : (L.take (q - 1)).length = q - 1 := by rw [List.length_take]; omega
  have e2 : (L.take q).set (q - 1) y = L.take (q - 1) ++ [y] := by
    rw [e1, List.set_append_right _ _ (by omega), hl, Nat.sub_self]
    rfl
  rw [e2]
  by_cases h : q ≤ p
  · rw [if_pos h]
    have e3 : L.take p = L.take (q - 1) ++ x :: (L.take p).drop q := by
      conv => lhs; rw [← List.take_append_drop q (L.take p)]
      rw [List.take_take, Nat.min_eq_left h, e1, List.append_assoc]
      rfl
    rw [e3, cmn_app, hl, cmn_cons, if_neg hy]
    rfl
  · rw [if_neg h]
    have e3 : L.take (q - 1) = L.take p ++ (L.take (q - 1)).drop p := by
      conv => lhs; rw [← List.take_append_drop p (L.take (q - 1))]
      rw [List.take_take, Nat.min_eq_left (by omega)]
    rw [e3, List.append_assoc, cmn_pre, List.length_take]
    omega
/-- What the last line of the law is told. -/
structure OrI (p q ll ca cb cl cc sh : Nat) (aa ab al ac : Option Addr) (L CL : List En) (W : World) : Prop where
  la : (L.take p).length = p
  lb : (L.take q).length = q
  hll : L.length = ll
  lc : CL.length = q
  hp : p ≤ ll
  hq : q ≤ ll
  l256 : ll ≤ 256
  sa : SlY yE W aa p ca (L.take p)
  sb : SlY yE W ab q cb (L.take q)
  sl : SlY yE W al ll cl L
  sc : SlY yE W ac q cc CL
  cm : cmn (L.take p) CL = sh
theorem OrI.later {p q ll ca cb cl cc sh : Nat} {aa ab al ac : Option Addr} {L CL : List En} {W W' : World} (h : OrI p q ll ca cb cl cc sh aa ab al ac L CL W) (hb : Below W.heap.size W W') : OrI p q ll ca cb cl cc sh aa ab al ac L CL W' :=
  ⟨h.la, h.lb, h.hll, h.lc, h.hp, h.hq, h.l256, h.sa.later hb, h.sb.later hb, h.sl.later hb, h.sc.later hb, h.cm⟩
section
variable {p q ll ca cb cl cc sh : Nat} {aa ab al ac : Option Addr} {L CL : List En} {W : World}
theorem OrI.t1 (h : OrI p q ll ca cb cl cc sh aa ab al ac L CL W) : Calls Try.prog 32 #[.slice aa p ca, .slice al ll cl] W fun e w' => e = .returned (.bool true) ∧ Below W.heap.size W w' := by
  have := beginsO_any _ _ _ _ _ _ _ _ W h.sa h.sl (by have := h.hp; have := h.l256; omega)
  have e : decide (cmn (L.take p) L = (L.take p).length) = true := by
    have := cmn_take L (show p ≤ L.length by rw [h.hll]; exact h.hp) (Nat.le_refl _)
    rw [List.take_length] at this
    rw [this, h.la, h.hll]
    simp; exact Nat.min_eq_left h.hp
  rw [e] at this
  exact this
theorem OrI.t2 (h : OrI p q ll ca cb cl cc sh aa ab al ac L CL W) : Calls Try.prog 32 #[.slice aa p ca, .slice ab q cb] W fun e w' => e = .returned (.bool (decide ((p : Int) ≤ (q : Int)))) ∧ Below W.heap.size W w' := by
  have := beginsO_any _ _ _ _ _ _ _ _ W h.sa h.sb (by have := h.hp; have := h.l256; omega)
  have e : decide (cmn (L.take p) (L.take q) = (L.take p).length) = decide ((p : Int) ≤ (q : Int)) := by
    rw [cmn_take L (by rw [h.hll]; exact h.hp) (by rw [h.hll]; exact h.hq), h.la]
    by_cases hpq : p ≤ q
    · rw [decide_eq_true (by omega), decide_eq_true (by omega)]
    · rw [decide_eq_false (by omega), decide_eq_false (by omega)]
  rw [e] at this
  exact this
theorem OrI.t3 (h : OrI p q ll ca cb cl cc sh aa ab al ac L CL W) : Calls Try.prog 30 #[.slice aa p ca, .slice ac q cc] W fun e w' => e = .returned (.int .i64 (sh : Int)) ∧ Below W.heap.size W w' := by
  have := commonO_any _ _ _ _ _ _ _ _ W h.sa h.sc (by have := h.hp; have := h.l256; omega)
  rw [h.cm] at this
  exact this
theorem OrI.t4 (h : OrI p q ll ca cb cl cc sh aa ab al ac L CL W) : Calls Try.prog 30 #[.slice ac q cc, .slice aa p ca] W fun e w' => e = .returned (.int .i64 (sh : Int)) ∧ Below W.heap.size W w' := by
  have := commonO_any _ _ _ _ _ _ _ _ W h.sc h.sa (by have := h.hq; have := h.l256; omega)
  rw [cmn_comm, h.cm] at this
  exact this
theorem OrI.t5 (h : OrI p q ll ca cb cl cc sh aa ab al ac L CL W) (k : Int) : Calls Try.prog 34 #[.slice aa p ca, .slice ac q cc, .int .i64 k] W fun e w' => e = .returned (.bool (decide (0 ≤ k ∧ k ≤ (sh : Int)))) ∧ Below W.heap.size W w' := by
  have := agreeO_any _ _ _ _ _ _ _ _ k W h.sa h.sc (by have := h.hp; have := h.l256; omega)
  rw [h.cm] at this
  exact this
theorem OrI.t6 (h : OrI p q ll ca cb cl cc sh aa ab al ac L CL W) : Calls Try.prog 32 #[.slice aa p ca, .slice ac q cc] W fun e w' => e = .returned (.bool (decide ((sh : Int) = (p : Int)))) ∧ Below W.heap.size W w' := by
  have := beginsO_any _ _ _ _ _ _ _ _ W h.sa h.sc (by have := h.hp; have := h.l256; omega)
  have e : decide (cmn (L.take p) CL = (L.take p).length) = decide ((sh : Int) = (p : Int)) := by
    rw [h.cm, h.la]
    by_cases hpq : sh = p
    · rw [decide_eq_true hpq, decide_eq_true (by omega)]
    · rw [decide_eq_false hpq, decide_eq_false (by omega)]
  rw [e] at this
  exact this
theorem OrI.t7 (h : OrI p q ll ca cb cl cc sh aa ab al ac L CL W) : Calls Try.prog 32 #[.slice aa p ca, .slice aa p ca] W fun e w' => e = .returned (.bool true) ∧ Below W.heap.size W w' := by
  have := beginsO_any _ _ _ _ _ _ _ _ W h.sa h.sa (by have := h.hp; have := h.l256; omega)
  rw [cmn_self, decide_eq_true rfl] at this
  exact this
end
set_option maxRecDepth 100000 in
set_option maxHeartbeats 4000000 in
theorem order6_walk (R : List En) (a : Option Addr) (n c : Nat) (k1 k2 k3 : Int) (tr : Bool) (hk1 : (Lit.int .i64 k1).wf = true) (hk2 : (Lit.int .i64 k2).wf = true) (w : World) (h : SlY yW w a n c R) (hf : ∀ e ∈ R, e.fits) :
    Calls Try.prog 12 #[.slice a n c, .int .i64 k1, .int .i64 k2, .int .i64 k3, .bool tr] w fun e w' => e = .returned (.bool true) ∧ Below w.heap.size w w' := by
  have cg := hide (grown_any R a n c 256 (by omega) (by omega) w h hf)
  have HK1 := hide hk1
  have HK2 := hide hk2
  clear h hf hk1 hk2
  go_enter Try.func12, Try.ntmps12
  go_wp2_with fail
  refine cg.out.mono ?_
  rintro e w1 ⟨v, L, rfl, o1, hG, b1⟩
  obtain ⟨al, cl, hv0, hlc, hcm, _⟩ := o1.form
  obtain ⟨ll, hll⟩ : ∃ ll, L.length = ll := ⟨_, rfl⟩
  have hl256 := (chk_zero hG.ok).1
  rw [hll] at hv0 hlc hl256
  subst hv0
  have HLL := hide hll
  have O1 := hide o1
  have HG := hide hG
  unfold maxLen at hcm
  clear o1 hll hG cg
  go_wp2_with fail
  refine (works6_any w1).mono ?_
  rintro e w2 ⟨rfl, b2⟩
  have B2 := hide (b1.trans (b2.mono b1.size))
  have S2 := hide ((O1.out.grow b2).sl' kE)
  clear O1 b1 b2
  go_wp2_with fail
  refine (within6_any k1 (ll : Int) HK1.out (by omega) (by omega) w2).mono ?_
  rintro e w3 ⟨r1, rfl, ⟨p0, p1⟩, hw3⟩
  subst hw3
  obtain ⟨p, rfl⟩ : ∃ p : Nat, r1 = (p : Int) := ⟨r1.toNat, by omega⟩
  have hp : p ≤ ll := by omega
  have hct : Hid (∀ m : Nat, m ≤ ll → ctE L (m : Int) = 0 ∧ ctL L (m : Int) = L.take m) := fun m hm => by
    have := HLL.out
    constructor
    · simp [ctE, this]; omega
    · simp [ctL, this]; omega
  have C1 := cutO_any L al ll cl (p : Int) w3 S2.out (by omega)
  rw [(hct.out p hp).1, (hct.out p hp).2] at C1
  have HC1 := hide C1
  clear C1
  go_wp2_with fail
  refine HC1.out.mono ?_
  rintro e w4 ⟨va, rfl, oa, b4⟩
  obtain ⟨aa, ca, hva, hca1, hca2, _⟩ := oa.form
  have hlp : (L.take p).length = p := by rw [List.length_take, HLL.out]; omega
  rw [hlp] at hva hca1
  subst hva
  have OA4 := hide oa
  have B4 := hide (B2.out.trans (b4.mono B2.out.size))
  have S4 := hide (S2.out.later b4)
  clear oa HC1 S2 B2 b4
  go_wp2_with fail
  refine (within6_any k2 (ll : Int) HK2.out (by omega) (by omega) w4).mono ?_
  rintro e w5 ⟨r2, rfl, ⟨p2, p3⟩, hw5⟩
  subst hw5
  obtain ⟨q, rfl⟩ : ∃ q : Nat, r2 = (q : Int) := ⟨r2.toNat, by omega⟩
  have hq : q ≤ ll := by omega
  have C1 := cutO_any L al ll cl (q : Int) w5 S4.out (by omega)
  rw [(hct.out q hq).1, (hct.out q hq).2] at C1
  have HC1 := hide C1
  clear C1
  go_wp2_with fail
  refine HC1.out.mono ?_
  rintro e w6 ⟨vb, rfl, ob, b6⟩
  obtain ⟨ab, cb, hvb, hcb1, hcb2, _⟩ := ob.form
  have hlq : (L.take q).length = q := by rw [List.length_take, HLL.out]; omega
  rw [hlq] at hvb hcb1
  subst hvb
  have OB6 := hide ob
  have OA6 := hide (OA4.out.grow b6)
  have B6 := hide (B4.out.trans (b6.mono B4.out.size))
  have S6 := hide (S4.out.later b6)
  unfold maxLen at hca2 hcb2
  clear ob HC1 S4 B4 b6 OA4 hct p0 p1 p2 p3
  go_wp2_with fail
  refine (copyent_any ab q cb (L.take q) w6 (OB6.out.sl' kE) (by omega)).mono ?_
  rintro e w7 ⟨vc, rfl, oc, b7⟩
  obtain ⟨ac, cc, hvc, hcc1, hcc2, kn, kg⟩ := oc.form
  rw [hlq] at hvc hcc1
  subst hvc
  have OC7 := hide oc
  have HB7 := hide b7
  unfold maxLen at hcc2
  clear oc b7
  have HLP := hide hlp
  have HLQ := hide hlq
  clear hlp hlq
  by_cases ht : tr = true ∧ 0 < q
  · obtain ⟨rfl, hq0⟩ := ht
    obtain ⟨gc, rfl⟩ : ∃ gc, ac = some ⟨gc, 0, none⟩ := by
      cases ac with
      | none => have := (kn rfl).1; rw [this] at HLQ; have := HLQ.out; simp at this; omega
      | some z => obtain ⟨g, hz, _⟩ := kg z rfl; exact ⟨g, by rw [hz]⟩
    obtain ⟨_, hz0, hgb, hgl⟩ := kg _ rfl
    cases hz0
    have hqL : q - 1 < L.length := by rw [HLL.out]; omega
    have hx : L[q - 1]? = some L[q - 1] := List.getElem?_eq_getElem hqL
    have hxn : 1 ≤ L[q - 1].n := (ckE_zero (er_zero (chk_ok HG.out.ok hx)).1).2.2.1
    have hxt : (L.take q)[q - 1]? = some L[q - 1] := by rw [List.getElem?_take, if_pos (by omega)]; exact hx
    have hcm2 := fun (y : En) (hy : L[q - 1] ≠ y) => cmn_turn (p := p) (by rw [HLL.out]; exact hp) (by rw [HLL.out]; exact hq) hq0 hx hy
    generalize L[q - 1] = x at *
    have hcm3 := hcm2 ⟨x.c, -1, x.o⟩ (fun e => by rw [e] at hxn; simp at hxn)
    have HCM := hide hcm3
    have HXT := hide hxt
    clear hcm2 hcm3 hx hxn hxt kn kg
    go_wp2_with (refine storeY kE _ rfl 3 (.tmp 67) (.const (.int .i64 (-1))) rfl w6.heap.size gc q cc (L.take q) (q - 1) 1 x ⟨x.c, -1, x.o⟩ (.int .i64 (-1)) rfl rfl HXT.out (by kernel_rfl) (by decide) rfl OC7.out ?_)
    intro w8 o8 u8 z8
    have b68 : Below w6.heap.size w6 w8 := HB7.out.trans (u8.below HB7.out.size (fun k hk => by rw [hk]; exact hgb))
    have bW : Below w.heap.size w w8 := B6.out.trans (b68.mono B6.out.size)
    have hIc : ∀ sh, cmn (L.take p) ((L.take q).set (q - 1) ⟨x.c, -1, x.o⟩) = sh → OrI p q ll ca cb cl cc sh aa ab al (some ⟨gc, 0, none⟩) L ((L.take q).set (q - 1) ⟨x.c, -1, x.o⟩) w8 := fun sh hs => ⟨HLP.out, HLQ.out, HLL.out, by rw [List.length_set]; exact HLQ.out, hp, hq, hl256, (OA6.out.grow b68).sl' kE, (OB6.out.grow b68).sl' kE, S6.out.later b68, o8.sl' kE, hs⟩
    have HIC := hide hIc
    clear o8 u8 z8 b68 hIc OA6 OB6 S6 OC7 HXT
    by_cases hqp : q ≤ p
    · have hI := HIC.out (q - 1) (by rw [HCM.out, if_pos hqp])
      have hmin : min (p : Int) (q : Int) = (q : Int) := by omega
      have hsub : ((q - 1 : Nat) : Int) = (q : Int) - 1 := by omega
      have hqp2 : decide ((q : Int) ≤ (p : Int)) = true := by simp; omega
      obtain ⟨sh, hsh⟩ : ∃ sh : Nat, q - 1 = sh := ⟨_, rfl⟩
      rw [hsh] at hI hsub
      have hsub2 := hsub.symm
      clear hsub hsh HIC HCM
      have HI := hide hI
      have HBW := hide bW
      clear hI bW
      go_wp2_with fail
      refine HI.out.t1.mono ?_
      rintro e x1 ⟨rfl, d1⟩
      have HI1 := hide (HI.out.later d1)
      go_wp2_with fail
      refine HI1.out.t2.mono ?_
      rintro e x2 ⟨rfl, d2⟩
      have HI2 := hide (HI1.out.later d2)
      go_wp2_with fail
      refine HI2.out.t3.mono ?_
      rintro e x3 ⟨rfl, d3⟩
      have HI3 := hide (HI2.out.later d3)
      go_wp2_with fail
      refine HI3.out.t4.mono ?_
      rintro e x4 ⟨rfl, d4⟩
      have HI4 := hide (HI3.out.later d4)
      go_wp2_with fail
      refine (HI4.out.t5 k3).mono ?_
      rintro e x5 ⟨rfl, d5⟩
      have HI5 := hide (HI4.out.later d5)
      have D5 := hide ((((d1.trans (d2.mono d1.size)).trans (d3.mono (d1.trans (d2.mono d1.size)).size)).trans (d4.mono ((d1.trans (d2.mono d1.size)).trans (d3.mono (d1.trans (d2.mono d1.size)).size)).size)).trans (d5.mono (((d1.trans (d2.mono d1.size)).trans (d3.mono (d1.trans (d2.mono d1.size)).size)).trans (d4.mono ((d1.trans (d2.mono d1.size)).trans (d3.mono (d1.trans (d2.mono d1.size)).size)).size)).size))
      clear d1 d2 d3 d4 d5 HI HI1 HI2 HI3 HI4
      by_cases hk : 0 ≤ k3
      · have hk2 : decide (0 ≤ k3) = true := by simpa using hk
        have hk4 : decide (0 ≤ k3 ∧ k3 ≤ (sh : Int)) = decide (k3 ≤ (sh : Int)) := by simp [hk]
        rw [hk4]
        go_wp2_with fail
        refine HI5.out.t6.mono ?_
        rintro e x6 ⟨rfl, d6⟩
        go_wp2_with fail
        refine (HI5.out.later d6).t7.mono ?_
        rintro e x7 ⟨rfl, d7⟩
        have D7 := hide ((D5.out.trans (d6.mono D5.out.size)).trans (d7.mono (D5.out.trans (d6.mono D5.out.size)).size))
        clear d6 d7 HI5 D5
        go_wp2
        go_ret
        exact ⟨rfl, HBW.out.trans (D7.out.mono HBW.out.size)⟩
      · have hk2 : decide (0 ≤ k3) = false := by simpa using hk
        have hk4 : decide (0 ≤ k3 ∧ k3 ≤ (sh : Int)) = false := by simp [hk]
        rw [hk4]
        go_wp2_with fail
        refine HI5.out.t6.mono ?_
        rintro e x6 ⟨rfl, d6⟩
        go_wp2_with fail
        refine (HI5.out.later d6).t7.mono ?_
        rintro e x7 ⟨rfl, d7⟩
        have D7 := hide ((D5.out.trans (d6.mono D5.out.size)).trans (d7.mono (D5.out.trans (d6.mono D5.out.size)).size))
        clear d6 d7 HI5 D5
        go_wp2
        go_ret
        exact ⟨rfl, HBW.out.trans (D7.out.mono HBW.out.size)⟩
    · have hI := HIC.out p (by rw [HCM.out, if_neg hqp])
      have hmin : min (p : Int) (q : Int) = (p : Int) := by omega
      have hqp2 : decide ((q : Int) ≤ (p : Int)) = false := by simp; omega
      clear HIC HCM
      have HI := hide hI
      have HBW := hide bW
      clear hI bW
      go_wp2_with fail
      refine HI.out.t1.mono ?_
      rintro e x1 ⟨rfl, d1⟩
      have HI1 := hide (HI.out.later d1)
      go_wp2_with fail
      refine HI1.out.t2.mono ?_
      rintro e x2 ⟨rfl, d2⟩
      have HI2 := hide (HI1.out.later d2)
      go_wp2_with fail
      refine HI2.out.t3.mono ?_
      rintro e x3 ⟨rfl, d3⟩
      have HI3 := hide (HI2.out.later d3)
      go_wp2_with fail
      refine HI3.out.t4.mono ?_
      rintro e x4 ⟨rfl, d4⟩
      have HI4 := hide (HI3.out.later d4)
      go_wp2_with fail
      refine (HI4.out.t5 k3).mono ?_
      rintro e x5 ⟨rfl, d5⟩
      have HI5 := hide (HI4.out.later d5)
      have D5 := hide ((((d1.trans (d2.mono d1.size)).trans (d3.mono (d1.trans (d2.mono d1.size)).size)).trans (d4.mono ((d1.trans (d2.mono d1.size)).trans (d3.mono (d1.trans (d2.mono d1.size)).size)).size)).trans (d5.mono (((d1.trans (d2.mono d1.size)).trans (d3.mono (d1.trans (d2.mono d1.size)).size)).trans (d4.mono ((d1.trans (d2.mono d1.size)).trans (d3.mono (d1.trans (d2.mono d1.size)).size)).size)).size))
      clear d1 d2 d3 d4 d5 HI HI1 HI2 HI3 HI4
      by_cases hk : 0 ≤ k3
      · have hk2 : decide (0 ≤ k3) = true := by simpa using hk
        have hk4 : decide (0 ≤ k3 ∧ k3 ≤ (p : Int)) = decide (k3 ≤ (p : Int)) := by simp [hk]
        rw [hk4]
        go_wp2_with fail
        refine HI5.out.t6.mono ?_
        rintro e x6 ⟨rfl, d6⟩
        go_wp2_with fail
        refine (HI5.out.later d6).t7.mono ?_
        rintro e x7 ⟨rfl, d7⟩
        have D7 := hide ((D5.out.trans (d6.mono D5.out.size)).trans (d7.mono (D5.out.trans (d6.mono D5.out.size)).size))
        clear d6 d7 HI5 D5
        go_wp2
        go_ret
        exact ⟨rfl, HBW.out.trans (D7.out.mono HBW.out.size)⟩
      · have hk2 : decide (0 ≤ k3) = false := by simpa using hk
        have hk4 : decide (0 ≤ k3 ∧ k3 ≤ (p : Int)) = false := by simp [hk]
        rw [hk4]
        go_wp2_with fail
        refine HI5.out.t6.mono ?_
        rintro e x6 ⟨rfl, d6⟩
        go_wp2_with fail
        refine (HI5.out.later d6).t7.mono ?_
        rintro e x7 ⟨rfl, d7⟩
        have D7 := hide ((D5.out.trans (d6.mono D5.out.size)).trans (d7.mono (D5.out.trans (d6.mono D5.out.size)).size))
        clear d6 d7 HI5 D5
        go_wp2
        go_ret
        exact ⟨rfl, HBW.out.trans (D7.out.mono HBW.out.size)⟩
  · have bW : Below w.heap.size w w7 := B6.out.trans (HB7.out.mono B6.out.size)
    obtain ⟨sh, hsh⟩ : ∃ sh : Nat, min p q = sh := ⟨_, rfl⟩
    have hmin : min (p : Int) (q : Int) = (sh : Int) := by omega
    have hI : OrI p q ll ca cb cl cc sh aa ab al ac L (L.take q) w7 := ⟨HLP.out, HLQ.out, HLL.out, HLQ.out, hp, hq, hl256, (OA6.out.grow HB7.out).sl' kE, (OB6.out.grow HB7.out).sl' kE, S6.out.later HB7.out, OC7.out.sl' kE, by rw [cmn_take L (by rw [HLL.out]; exact hp) (by rw [HLL.out]; exact hq), hsh]⟩
    clear OA6 OB6 S6 OC7 HB7 kn kg hsh
    cases tr with
    | true =>
      obtain rfl : q = 0 := by
        by_cases h0 : q = 0
        · exact h0
        · exact absurd ⟨rfl, by omega⟩ ht
      clear ht
      have HI := hide hI
      have HBW := hide bW
      clear hI bW
      go_wp2_with fail
      refine HI.out.t1.mono ?_
      rintro e x1 ⟨rfl, d1⟩
      have HI1 := hide (HI.out.later d1)
      go_wp2_with fail
      refine HI1.out.t2.mono ?_
      rintro e x2 ⟨rfl, d2⟩
      have HI2 := hide (HI1.out.later d2)
      go_wp2_with fail
      refine HI2.out.t3.mono ?_
      rintro e x3 ⟨rfl, d3⟩
      have HI3 := hide (HI2.out.later d3)
      go_wp2_with fail
      refine HI3.out.t4.mono ?_
      rintro e x4 ⟨rfl, d4⟩
      have HI4 := hide (HI3.out.later d4)
      go_wp2_with fail
      refine (HI4.out.t5 k3).mono ?_
      rintro e x5 ⟨rfl, d5⟩
      have HI5 := hide (HI4.out.later d5)
      have D5 := hide ((((d1.trans (d2.mono d1.size)).trans (d3.mono (d1.trans (d2.mono d1.size)).size)).trans (d4.mono ((d1.trans (d2.mono d1.size)).trans (d3.mono (d1.trans (d2.mono d1.size)).size)).size)).trans (d5.mono (((d1.trans (d2.mono d1.size)).trans (d3.mono (d1.trans (d2.mono d1.size)).size)).trans (d4.mono ((d1.trans (d2.mono d1.size)).trans (d3.mono (d1.trans (d2.mono d1.size)).size)).size)).size))
      clear d1 d2 d3 d4 d5 HI HI1 HI2 HI3 HI4
      by_cases hk : 0 ≤ k3
      · have hk2 : decide (0 ≤ k3) = true := by simpa using hk
        have hk4 : decide (0 ≤ k3 ∧ k3 ≤ (sh : Int)) = decide (k3 ≤ (sh : Int)) := by simp [hk]
        rw [hk4]
        go_wp2_with fail
        refine HI5.out.t6.mono ?_
        rintro e x6 ⟨rfl, d6⟩
        go_wp2_with fail
        refine (HI5.out.later d6).t7.mono ?_
        rintro e x7 ⟨rfl, d7⟩
        have D7 := hide ((D5.out.trans (d6.mono D5.out.size)).trans (d7.mono (D5.out.trans (d6.mono D5.out.size)).size))
        clear d6 d7 HI5 D5
        go_wp2
        go_ret
        exact ⟨rfl, HBW.out.trans (D7.out.mono HBW.out.size)⟩
      · have hk2 : decide (0 ≤ k3) = false := by simpa using hk
        have hk4 : decide (0 ≤ k3 ∧ k3 ≤ (sh : Int)) = false := by simp [hk]
        rw [hk4]
        go_wp2_with fail
        refine HI5.out.t6.mono ?_
        rintro e x6 ⟨rfl, d6⟩
        go_wp2_with fail
        refine (HI5.out.later d6).t7.mono ?_
        rintro e x7 ⟨rfl, d7⟩
        have D7 := hide ((D5.out.trans (d6.mono D5.out.size)).trans (d7.mono (D5.out.trans (d6.mono D5.out.size)).size))
        clear d6 d7 HI5 D5
        go_wp2
        go_ret
        exact ⟨rfl, HBW.out.trans (D7.out.mono HBW.out.size)⟩
    | false =>
      clear ht
      have HI := hide hI
      have HBW := hide bW
      clear hI bW
      go_wp2_with fail
      refine HI.out.t1.mono ?_
      rintro e x1 ⟨rfl, d1⟩
      have HI1 := hide (HI.out.later d1)
      go_wp2_with fail
      refine HI1.out.t2.mono ?_
      rintro e x2 ⟨rfl, d2⟩
      have HI2 := hide (HI1.out.later d2)
      go_wp2_with fail
      refine HI2.out.t3.mono ?_
      rintro e x3 ⟨rfl, d3⟩
      have HI3 := hide (HI2.out.later d3)
      go_wp2_with fail
      refine HI3.out.t4.mono ?_
      rintro e x4 ⟨rfl, d4⟩
      have HI4 := hide (HI3.out.later d4)
      go_wp2_with fail
      refine (HI4.out.t5 k3).mono ?_
      rintro e x5 ⟨rfl, d5⟩
      have HI5 := hide (HI4.out.later d5)
      have D5 := hide ((((d1.trans (d2.mono d1.size)).trans (d3.mono (d1.trans (d2.mono d1.size)).size)).trans (d4.mono ((d1.trans (d2.mono d1.size)).trans (d3.mono (d1.trans (d2.mono d1.size)).size)).size)).trans (d5.mono (((d1.trans (d2.mono d1.size)).trans (d3.mono (d1.trans (d2.mono d1.size)).size)).trans (d4.mono ((d1.trans (d2.mono d1.size)).trans (d3.mono (d1.trans (d2.mono d1.size)).size)).size)).size))
      clear d1 d2 d3 d4 d5 HI HI1 HI2 HI3 HI4
      by_cases hk : 0 ≤ k3
      · have hk2 : decide (0 ≤ k3) = true := by simpa using hk
        have hk4 : decide (0 ≤ k3 ∧ k3 ≤ (sh : Int)) = decide (k3 ≤ (sh : Int)) := by simp [hk]
        rw [hk4]
        go_wp2_with fail
        refine HI5.out.t6.mono ?_
        rintro e x6 ⟨rfl, d6⟩
        go_wp2_with fail
        refine (HI5.out.later d6).t7.mono ?_
        rintro e x7 ⟨rfl, d7⟩
        have D7 := hide ((D5.out.trans (d6.mono D5.out.size)).trans (d7.mono (D5.out.trans (d6.mono D5.out.size)).size))
        clear d6 d7 HI5 D5
        go_wp2
        go_ret
        exact ⟨rfl, HBW.out.trans (D7.out.mono HBW.out.size)⟩
      · have hk2 : decide (0 ≤ k3) = false := by simpa using hk
        have hk4 : decide (0 ≤ k3 ∧ k3 ≤ (sh : Int)) = false := by simp [hk]
        rw [hk4]
        go_wp2_with fail
        refine HI5.out.t6.mono ?_
        rintro e x6 ⟨rfl, d6⟩
        go_wp2_with fail
        refine (HI5.out.later d6).t7.mono ?_
        rintro e x7 ⟨rfl, d7⟩
        have D7 := hide ((D5.out.trans (d6.mono D5.out.size)).trans (d7.mono (D5.out.trans (d6.mono D5.out.size)).size))
        clear d6 d7 HI5 D5
        go_wp2
        go_ret
        exact ⟨rfl, HBW.out.trans (D7.out.mono HBW.out.size)⟩
theorem order6_came (a : Option Addr) (len cap : Nat) (k1 k2 k3 : Int) (tr : Bool) (W : World) (h : CameR W a len cap) (hk1 : (Lit.int .i64 k1).wf = true) (hk2 : (Lit.int .i64 k2).wf = true) :
    Calls Try.prog 12 #[.slice a len cap, .int .i64 k1, .int .i64 k2, .int .i64 k3, .bool tr] W fun e w' => e = .returned (.bool true) ∧ Below W.heap.size W w' := by
  obtain ⟨P, hs, hf, hm⟩ := h
  exact order6_walk P a len cap k1 k2 k3 tr hk1 hk2 W hs hf

end Go.Proofs.Ytdfoafpcoigklaa
