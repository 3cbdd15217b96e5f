import Derived.Test.YtcchnaldanibgaaVk
import Derived.Test.YtcchnaldanibgaaVo
namespace Go.Proofs.Ytcchnaldanibgaa
open Go.RowKit
set_option linter.unusedVariables false
set_option linter.unusedSimpArgs false

set_option maxRecDepth 100000 in
set_option maxHeartbeats 2000000 in
theorem least_bad (A B C : List (Int × Int)) (a1 a2 a3 : Option Addr) (n1 n2 n3 c1 c2 c3 : Nat) (w : World) (h1 : SlN w a1 n1 c1 A) (h2 : SlN w a2 n2 c2 B) (hbad : ¬ ((1 ≤ n1 ∧ n1 ≤ 7) ∧ n2 = n1)) :
    Calls Try.prog 6 #[.slice a1 n1 c1, .slice a2 n2 c2, .slice a3 n3 c3] w fun e w' => e = .returned (.bool true) ∧ Below w.heap.size w w' := by
  have LA := hide h1.1
  have LB := hide h2.1
  have HA := hide h1
  have HB := hide h2
  clear h1 h2
  go_enter Try.func6, Try.ntmps6
  go_wp2_with fail
  refine (alive_true w).mono ?_
  rintro e w1 ⟨rfl, b1⟩
  go_wp2_with fail
  refine (mgN_bad (lie2 (HA.out.bel b1) (HB.out.bel b1) _) rfl (by simp) LA.out (fun h => hbad ⟨h.1, LB.out.symm.trans (h.2 ⟨a2, c2, B⟩ (by simp))⟩)).mono ?_
  rintro e w2 ⟨rfl, b2'⟩
  have b2 : Below w.heap.size w w2 := b1.trans (b2'.mono b1.size)
  clear b2' b1
  go_wp2_with fail
  refine (mgN_bad (lie2 (HB.out.bel b2) (HA.out.bel b2) _) rfl (by simp) LB.out (fun h => hbad (by
    have e : A.length = n2 := h.2 ⟨a1, c1, A⟩ (by simp)
    have := LA.out
    have := h.1
    omega))).mono ?_
  rintro e w3 ⟨rfl, b3'⟩
  have b3 : Below w.heap.size w w3 := b2.trans (b3'.mono b2.size)
  clear b3' b2 HA HB
  go_wp2_with fail
  refine (num_any _ _).mono ?_
  rintro e w4 ⟨rfl, e1⟩
  have e1 := e1.symm
  subst e1
  go_wp2_with fail
  refine (num_any _ _).mono ?_
  rintro e w4 ⟨rfl, e1⟩
  have e1 := e1.symm
  subst e1
  go_wp2_with fail
  refine (sameN (SlN.nil _) (SlN.nil _)).mono ?_
  rintro e w4 ⟨rfl, k, rfl⟩
  have hd : decide (([] : List (Int × Int)) = []) = true := rfl
  rw [hd]
  clear hd
  have b4 := below_drewN b3 k
  generalize w3.drewN k = w4 at *
  go_wp2_with fail
  refine (num_any _ _).mono ?_
  rintro e w5 ⟨rfl, e1⟩
  have e1 := e1.symm
  subst e1
  clear LA LB b3
  by_cases q1 : n2 = n1
  · subst q1
    have f5 : (decide ((n2 : Int) < 1) || decide (7 < (n2 : Int))) = true := by simp; omega
    by_cases q2 : n2 < 1
    · have q4 : (n2 : Int) < 1 := by omega
      go_wp2
      go_ret
      exact ⟨rfl, b4⟩
    · have q3 : 7 < (n2 : Int) := by omega
      have q4 : ¬ (n2 : Int) < 1 := by omega
      go_wp2
      go_ret
      exact ⟨rfl, b4⟩
  · have f1 : ((n1 : Int) == (n2 : Int)) = false := by simp; omega
    have f2 : ((n1 : Int) != (n2 : Int)) = true := by simp; omega
    go_wp2
    go_ret
    exact ⟨rfl, b4⟩

set_option maxRecDepth 100000 in
set_option maxHeartbeats 4000000 in
theorem least_ok (A B C : List (Int × Int)) (a1 a2 a3 : Option Addr) (n n3 c1 c2 c3 : Nat) (w : World) (h1 : SlN w a1 n c1 A) (h2 : SlN w a2 n c2 B) (h3 : SlN w a3 n3 c3 C) (hn : 1 ≤ n ∧ n ≤ 7) :
    Calls Try.prog 6 #[.slice a1 n c1, .slice a2 n c2, .slice a3 n3 c3] w fun e w' => e = .returned (.bool true) ∧ Below w.heap.size w w' := by
  have LA := hide h1.1
  have LB := hide h2.1
  have LC := hide h3.1
  have LAB : Hid (A.length = B.length) := h1.1.trans h2.1.symm
  have HA := hide h1
  have HB := hide h2
  have HC := hide h3
  have RA := hide (rel_low (A := A) (B := jn A B) (by rw [jn_length]) (low_jn A B))
  have RB := hide (rel_low (A := B) (B := jn A B) (by rw [jn_length]; exact LAB.out.symm) (by rw [jn_comm LAB.out]; exact low_jn B A))
  clear h1 h2 h3
  go_enter Try.func6, Try.ntmps6
  go_wp2_with fail
  refine (alive_true w).mono ?_
  rintro e w1 ⟨rfl, b1⟩
  go_wp2_with fail
  refine (mgN_ok (lie2 (HA.out.bel b1) (HB.out.bel b1) _) rfl (by simp) LA.out hn (fun y hy => by simp at hy; subst hy; exact LB.out)).mono ?_
  rintro e w2 ⟨g, rfl, o2, b2'⟩
  have b2 : Below w.heap.size w w2 := b1.trans (b2'.mono b1.size)
  have AB2 : Hid (SlN w2 (some ⟨g, 0, none⟩) n n (jn A B)) := o2.sln
  clear b2' b1 o2
  go_wp2_with fail
  refine (mgN_ok (lie2 (HB.out.bel b2) (HA.out.bel b2) _) rfl (by simp) LB.out hn (fun y hy => by simp at hy; subst hy; exact LA.out)).mono ?_
  rintro e w3 ⟨g', rfl, o3, b3'⟩
  have b3 : Below w.heap.size w w3 := b2.trans (b3'.mono b2.size)
  have BA3 : Hid (SlN w3 (some ⟨g', 0, none⟩) n n (jn B A)) := o3.sln
  have AB3 := hide (AB2.out.bel b3')
  clear b3' b2 o3 AB2
  go_wp2_with fail
  refine (num_any _ _).mono ?_
  rintro e w4 ⟨rfl, e1⟩
  have e1 := e1.symm
  subst e1
  go_wp2_with fail
  refine (num_any _ _).mono ?_
  rintro e w4 ⟨rfl, e1⟩
  have e1 := e1.symm
  subst e1
  have SS := hide (sameN AB3.out BA3.out)
  rw [decide_eq_true (jn_comm LAB.out)] at SS
  go_wp2_with fail
  refine SS.out.mono ?_
  rintro e w4 ⟨rfl, k, rfl⟩
  have b4 := below_drewN b3 k
  have AB4 : Hid (SlN (w3.drewN k) (some ⟨g, 0, none⟩) n n (jn A B)) := AB3.out.bel (below_drewN (Below.refl _ _) k)
  clear AB3 BA3 SS b3
  generalize w3.drewN k = w4 at *
  go_wp2_with fail
  refine (num_any _ _).mono ?_
  rintro e w5 ⟨rfl, e1⟩
  have e1 := e1.symm
  subst e1
  go_wp2_with fail
  refine (mgN_ok (lie4 AB4.out (HB.out.bel b4) (HA.out.bel b4) AB4.out _) rfl (by simp) AB4.out.1 hn (fun y hy => by
    simp at hy
    rcases hy with rfl | rfl | rfl
    · exact LB.out
    · exact LA.out
    · exact AB4.out.1)).mono ?_
  rintro e w5 ⟨g5, rfl, o5, b5'⟩
  have b5 : Below w.heap.size w w5 := b4.trans (b5'.mono b4.size)
  have TW5 : Hid (SlN w5 (some ⟨g5, 0, none⟩) n n (jn A B)) := by
    have := o5.sln
    rw [show mer (jn A B) ([⟨a2, c2, B⟩, ⟨a1, c1, A⟩, ⟨some ⟨g, 0, none⟩, n, jn A B⟩].map (fun x : Vec => x.D)) = jn A B from twice_eq LAB.out] at this
    exact this
  have AB5 := hide (AB4.out.bel b5')
  clear b5' b4 o5 AB4
  go_wp2_with fail
  refine (num_any _ _).mono ?_
  rintro e w6 ⟨rfl, e1⟩
  have e1 := e1.symm
  subst e1
  have SS := hide (sameN TW5.out AB5.out)
  rw [decide_eq_true rfl] at SS
  go_wp2_with fail
  refine SS.out.mono ?_
  rintro e w6 ⟨rfl, k6, rfl⟩
  have b6 := below_drewN b5 k6
  have AB6 : Hid (SlN (w5.drewN k6) (some ⟨g, 0, none⟩) n n (jn A B)) := AB5.out.bel (below_drewN (Below.refl _ _) k6)
  clear AB5 TW5 SS b5
  generalize w5.drewN k6 = w6 at *
  go_wp2_with fail
  refine (cmpN (HA.out.bel b6) AB6.out).mono ?_
  rintro e w7 ⟨rfl, b7'⟩
  have b7 : Below w.heap.size w w7 := b6.trans (b7'.mono b6.size)
  have AB7 := hide (AB6.out.bel b7')
  clear b7' b6 AB6
  go_wp2_with fail
  refine (cmpN (HB.out.bel b7) AB7.out).mono ?_
  rintro e w8 ⟨rfl, b8'⟩
  have b8 : Below w.heap.size w w8 := b7.trans (b8'.mono b7.size)
  have AB8 := hide (AB7.out.bel b8')
  clear b8' b7 AB7
  generalize hra : rel A (jn A B) = ra at *
  generalize hrb : rel B (jn A B) = rb at *
  have K : ∀ P : Prop, (∀ ra rb : Int, (ra = 1 ∨ ra = 2) → (rb = 1 ∨ rb = 2) → P) → P := fun P h => h ra rb RA.out RB.out
  clear K hra hrb
  by_cases hc : n3 = n
  · subst hc
    have CAS := hide (up_cases (A := A) (B := B) (C := C) LAB.out (LC.out.trans LA.out.symm))
    have LBC : Hid (B.length = C.length) := LB.out.trans LC.out.symm
    rcases RA.out with rfl | rfl <;> rcases RB.out with rfl | rfl
    all_goals
      clear RA RB
      go_wp2_with fail
      refine (mgN_ok (lie2 (HB.out.bel b8) (HC.out.bel b8) _) rfl (by simp) LB.out hn (fun y hy => by simp at hy; subst hy; exact LC.out)).mono ?_
      rintro e w9 ⟨g9, rfl, o9, b9'⟩
      have b9 : Below w.heap.size w w9 := b8.trans (b9'.mono b8.size)
      have BC9 : Hid (SlN w9 (some ⟨g9, 0, none⟩) n3 n3 (jn B C)) := o9.sln
      have AB9 := hide (AB8.out.bel b9')
      clear b9' b8 o9 AB8
      go_wp2_with fail
      refine (mgN_ok (lie3 (HA.out.bel b9) (HB.out.bel b9) (HC.out.bel b9) _) rfl (by simp) LA.out hn (fun y hy => by
        simp at hy
        rcases hy with rfl | rfl
        · exact LB.out
        · exact LC.out)).mono ?_
      rintro e w10 ⟨g10, rfl, o10, b10'⟩
      have b10 : Below w.heap.size w w10 := b9.trans (b10'.mono b9.size)
      have AL10 : Hid (SlN w10 (some ⟨g10, 0, none⟩) n3 n3 (jn (jn A B) C)) := o10.sln
      have AB10 := hide (AB9.out.bel b10')
      have BC10 := hide (BC9.out.bel b10')
      clear b10' b9 o10 AB9 BC9
      go_wp2_with fail
      refine (mgN_ok (lie2 AB10.out (HC.out.bel b10) _) rfl (by simp) AB10.out.1 hn (fun y hy => by simp at hy; subst hy; exact LC.out)).mono ?_
      rintro e w11 ⟨g11, rfl, o11, b11'⟩
      have b11 : Below w.heap.size w w11 := b10.trans (b11'.mono b10.size)
      have LE11 : Hid (SlN w11 (some ⟨g11, 0, none⟩) n3 n3 (jn (jn A B) C)) := o11.sln
      have AB11 := hide (AB10.out.bel b11')
      have BC11 := hide (BC10.out.bel b11')
      have AL11 := hide (AL10.out.bel b11')
      clear b11' b10 o11 AB10 BC10 AL10
      go_wp2_with fail
      refine (mgN_ok (lie2 (HA.out.bel b11) BC11.out _) rfl (by simp) LA.out hn (fun y hy => by simp at hy; subst hy; exact BC11.out.1)).mono ?_
      rintro e w12 ⟨g12, rfl, o12, b12'⟩
      have b12 : Below w.heap.size w w12 := b11.trans (b12'.mono b11.size)
      have RI12 : Hid (SlN w12 (some ⟨g12, 0, none⟩) n3 n3 (jn A (jn B C))) := o12.sln
      have AB12 := hide (AB11.out.bel b12')
      have AL12 := hide (AL11.out.bel b12')
      have LE12 := hide (LE11.out.bel b12')
      clear b12' b11 o12 AB11 BC11 AL11 LE11
      iterate 4
        go_wp2_with fail
        refine (num_any _ _).mono ?_
        rintro e w13 ⟨rfl, e1⟩
        have e1 := e1.symm
        subst e1
      have SS := hide (sameN AL12.out LE12.out)
      rw [decide_eq_true rfl] at SS
      go_wp2_with fail
      refine SS.out.mono ?_
      rintro e w13 ⟨rfl, k13, rfl⟩
      have b13 := below_drewN b12 k13
      have AB13 : Hid (SlN (w12.drewN k13) (some ⟨g, 0, none⟩) n3 n3 (jn A B)) := AB12.out.bel (below_drewN (Below.refl _ _) k13)
      have AL13 : Hid (SlN (w12.drewN k13) (some ⟨g10, 0, none⟩) n3 n3 (jn (jn A B) C)) := AL12.out.bel (below_drewN (Below.refl _ _) k13)
      have RI13 : Hid (SlN (w12.drewN k13) (some ⟨g12, 0, none⟩) n3 n3 (jn A (jn B C))) := RI12.out.bel (below_drewN (Below.refl _ _) k13)
      clear AB12 AL12 LE12 RI12 SS b12
      generalize w12.drewN k13 = w13 at *
      have SS := hide (sameN AL13.out RI13.out)
      rw [decide_eq_true (jn_assoc LAB.out)] at SS
      go_wp2_with fail
      refine SS.out.mono ?_
      rintro e w14 ⟨rfl, k14, rfl⟩
      have b14 := below_drewN b13 k14
      have AB14 : Hid (SlN (w13.drewN k14) (some ⟨g, 0, none⟩) n3 n3 (jn A B)) := AB13.out.bel (below_drewN (Below.refl _ _) k14)
      clear AB13 AL13 RI13 SS b13
      generalize w13.drewN k14 = w14 at *
      go_wp2_with fail
      refine (cmpN (HC.out.bel b14) (HA.out.bel b14)).mono ?_
      rintro e w15 ⟨rfl, b15'⟩
      have b15 : Below w.heap.size w w15 := b14.trans (b15'.mono b14.size)
      have AB15 := hide (AB14.out.bel b15')
      clear b15' b14 AB14
      go_wp2_with fail
      refine (cmpN (HC.out.bel b15) (HB.out.bel b15)).mono ?_
      rintro e w16 ⟨rfl, b16'⟩
      have b16 : Below w.heap.size w w16 := b15.trans (b16'.mono b15.size)
      have AB16 := hide (AB15.out.bel b16')
      clear b16' b15 AB15
      go_wp2_with fail
      refine (cmpN (HC.out.bel b16) AB16.out).mono ?_
      rintro e w17 ⟨rfl, b17'⟩
      have b17 : Below w.heap.size w w17 := b16.trans (b17'.mono b16.size)
      clear b17' b16 AB16 HA HB HC LA LB LC LAB LBC
      generalize rel C A = x at *
      generalize rel C B = y at *
      generalize rel C (jn A B) = z at *
      rcases CAS.out with ⟨hx, hy, hz⟩ | ⟨⟨hx, hx'⟩, hz, hz'⟩ | ⟨hx, ⟨hy, hy'⟩, hz, hz'⟩
      · clear CAS
        rcases hx with rfl | rfl <;> rcases hy with rfl | rfl <;> rcases hz with rfl | rfl <;> (go_wp2; go_ret; exact ⟨rfl, b17⟩)
      · have f1 : (x == 1) = false := by simp [hx]
        have f2 : (x == 3) = false := by simp [hx']
        have f3 : (z == 1) = false := by simp [hz]
        have f4 : (z == 3) = false := by simp [hz']
        clear CAS
        go_wp2
        go_ret
        exact ⟨rfl, b17⟩
      · have f1 : (y == 1) = false := by simp [hy]
        have f2 : (y == 3) = false := by simp [hy']
        have f3 : (z == 1) = false := by simp [hz]
        have f4 : (z == 3) = false := by simp [hz']
        clear CAS
        rcases hx with rfl | rfl <;> (go_wp2; go_ret; exact ⟨rfl, b17⟩)
  · have f1 : ((n3 : Int) == (n : Int)) = false := by simp; omega
    have f2 : ((n3 : Int) != (n : Int)) = true := by simp; omega
    rcases RA.out with rfl | rfl <;> rcases RB.out with rfl | rfl
    all_goals
      clear RA RB
      go_wp2_with fail
      refine (mgN_bad (lie2 (HB.out.bel b8) (HC.out.bel b8) _) rfl (by simp) LB.out (fun h => hc (LC.out.symm.trans (h.2 ⟨a3, c3, C⟩ (by simp))))).mono ?_
      rintro e w9 ⟨rfl, b9'⟩
      have b9 : Below w.heap.size w w9 := b8.trans (b9'.mono b8.size)
      have AB9 := hide (AB8.out.bel b9')
      clear b9' b8 AB8
      go_wp2_with fail
      refine (mgN_bad (lie3 (HA.out.bel b9) (HB.out.bel b9) (HC.out.bel b9) _) rfl (by simp) LA.out (fun h => hc (LC.out.symm.trans (h.2 ⟨a3, c3, C⟩ (by simp))))).mono ?_
      rintro e w10 ⟨rfl, b10'⟩
      have b10 : Below w.heap.size w w10 := b9.trans (b10'.mono b9.size)
      have AB10 := hide (AB9.out.bel b10')
      clear b10' b9 AB9
      go_wp2_with fail
      refine (mgN_bad (lie2 AB10.out (HC.out.bel b10) _) rfl (by simp) AB10.out.1 (fun h => hc (LC.out.symm.trans (h.2 ⟨a3, c3, C⟩ (by simp))))).mono ?_
      rintro e w11 ⟨rfl, b11'⟩
      have b11 : Below w.heap.size w w11 := b10.trans (b11'.mono b10.size)
      clear b11' b10 AB10
      go_wp2_with fail
      refine (mgN_bad (lie2 (HA.out.bel b11) (SlN.nil w11) _) rfl (by simp) LA.out (fun h => by have e : 0 = n := h.2 ⟨none, 0, []⟩ (by simp); omega)).mono ?_
      rintro e w12 ⟨rfl, b12'⟩
      have b12 : Below w.heap.size w w12 := b11.trans (b12'.mono b11.size)
      clear b12' b11
      iterate 2
        go_wp2_with fail
        refine (num_any _ _).mono ?_
        rintro e w13 ⟨rfl, e1⟩
        have e1 := e1.symm
        subst e1
      go_wp2
      go_ret
      exact ⟨rfl, b12⟩
theorem least_came (a1 a2 a3 : Option Addr) (n1 n2 n3 c1 c2 c3 : Nat) (w : World) (h1 : Came w a1 n1 c1) (h2 : Came w a2 n2 c2) (h3 : Came w a3 n3 c3) :
    Calls Try.prog 6 #[.slice a1 n1 c1, .slice a2 n2 c2, .slice a3 n3 c3] w fun e w' => e = .returned (.bool true) ∧ Below w.heap.size w w' := by
  obtain ⟨A, l1, s1, _⟩ := h1
  obtain ⟨B, l2, s2, _⟩ := h2
  obtain ⟨C, l3, s3, _⟩ := h3
  have t1 : SlN w a1 n1 c1 A := ⟨l1, by rw [l1]; exact s1⟩
  have t2 : SlN w a2 n2 c2 B := ⟨l2, by rw [l2]; exact s2⟩
  have t3 : SlN w a3 n3 c3 C := ⟨l3, by rw [l3]; exact s3⟩
  by_cases h : (1 ≤ n1 ∧ n1 ≤ 7) ∧ n2 = n1
  · obtain ⟨h, rfl⟩ := h
    exact least_ok A B C a1 a2 a3 n2 n3 c1 c2 c3 w t1 t2 t3 h
  · exact least_bad A B C a1 a2 a3 n1 n2 n3 c1 c2 c3 w t1 t2 h

end Go.Proofs.Ytcchnaldanibgaa
