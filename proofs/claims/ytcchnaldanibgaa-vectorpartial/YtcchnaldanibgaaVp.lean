import Derived.Test.YtcchnaldanibgaaVi
import Derived.Test.YtcchnaldanibgaaVo
namespace Go.Proofs.Ytcchnaldanibgaa
open Go.RowKit
set_option linter.unusedVariables false
set_option linter.unusedSimpArgs false

theorem part_cases (A B C : List (Int × Int)) :
    (A.length ≠ B.length ∧ rel A B = 0 ∧ rel B A = 0 ∧ decide (A = B) = false) ∨ (A.length = B.length ∧ rel A B = 1 ∧ rel B A = 1 ∧ decide (A = B) = true)
    ∨ (A.length = B.length ∧ rel A B = 2 ∧ rel B A = 3 ∧ decide (A = B) = false ∧ ((rel B C ≠ 2 ∧ rel B C ≠ 1) ∨ rel A C = 2)) ∨ (A.length = B.length ∧ rel A B = 3 ∧ rel B A = 2 ∧ decide (A = B) = false) ∨ (A.length = B.length ∧ rel A B = 4 ∧ rel B A = 4 ∧ decide (A = B) = false) := by
  have h2 := rel_cases B A
  rcases rel_cases A B with ⟨hl, h⟩ | ⟨hl, h⟩ | ⟨hl, l1, l2, h⟩ | ⟨hl, l1, l2, h⟩ | ⟨hl, l1, l2, h⟩
  · left
    refine ⟨hl, h, ?_, decide_eq_false (fun e => hl (by rw [e]))⟩
    rcases h2 with ⟨_, h2⟩ | ⟨k, _⟩ | ⟨k, _⟩ | ⟨k, _⟩ | ⟨k, _⟩
    · exact h2
    all_goals exact absurd k.symm hl
  · right; left
    obtain ⟨rfl, h⟩ := h
    exact ⟨hl, h, h, decide_eq_true rfl⟩
  · right; right; left
    have ne : A ≠ B := fun e => l2 (by rw [e]; exact lowr_refl _)
    refine ⟨hl, h, ?_, decide_eq_false ne, ?_⟩
    · rcases h2 with ⟨k, _⟩ | ⟨_, k, _⟩ | ⟨_, k, _⟩ | ⟨_, _, _, h2⟩ | ⟨_, _, k, _⟩
      · exact absurd hl.symm k
      · exact absurd k.symm ne
      · exact absurd k l2
      · exact h2
      · exact absurd l1 k
    · by_cases hbc : rel B C ≠ 2 ∧ rel B C ≠ 1
      · exact .inl hbc
      · right
        have hBC : B.length = C.length ∧ lowr B C := by
          rcases rel_cases B C with ⟨_, k⟩ | ⟨k1, k2, _⟩ | ⟨k1, k2, _⟩ | ⟨_, _, _, k⟩ | ⟨_, _, _, k⟩
          · rw [k] at hbc; simp at hbc
          · exact ⟨k1, by rw [k2]; exact lowr_refl _⟩
          · exact ⟨k1, k2⟩
          · rw [k] at hbc; simp at hbc
          · rw [k] at hbc; simp at hbc
        have lAC : lowr A C := lowr_trans hl l1 hBC.2
        have nCA : ¬ lowr C A := fun hca => l2 (lowr_trans hBC.1 hBC.2 hca)
        rcases rel_cases A C with ⟨k, _⟩ | ⟨_, k, _⟩ | ⟨_, _, _, k⟩ | ⟨_, k, _⟩ | ⟨_, k, _⟩
        · exact absurd (hl.trans hBC.1) k
        · exact absurd (by rw [k]; exact lowr_refl _) nCA
        · exact k
        · exact absurd lAC k
        · exact absurd lAC k
  · right; right; right; left
    have ne : A ≠ B := fun e => l1 (by rw [e]; exact lowr_refl _)
    refine ⟨hl, h, ?_, decide_eq_false ne⟩
    rcases h2 with ⟨k, _⟩ | ⟨_, k, _⟩ | ⟨_, _, _, h2⟩ | ⟨_, k, _⟩ | ⟨_, k, _⟩
    · exact absurd hl.symm k
    · exact absurd k.symm ne
    · exact h2
    · exact absurd l2 k
    · exact absurd l2 k
  · right; right; right; right
    have ne : A ≠ B := fun e => l1 (by rw [e]; exact lowr_refl _)
    refine ⟨hl, h, ?_, decide_eq_false ne⟩
    rcases h2 with ⟨k, _⟩ | ⟨_, k, _⟩ | ⟨_, k, _⟩ | ⟨_, _, k, _⟩ | ⟨_, _, _, h2⟩
    · exact absurd hl.symm k
    · exact absurd k.symm ne
    · exact absurd k l2
    · exact absurd k l1
    · exact h2
theorem rel_self (A : List (Int × Int)) : rel A A = 1 := by
  rcases rel_cases A A with ⟨k, _⟩ | ⟨_, _, k⟩ | ⟨_, _, k, _⟩ | ⟨_, k, _⟩ | ⟨_, k, _⟩
  · exact absurd rfl k
  · exact k
  all_goals exact absurd (lowr_refl _) k

set_option maxRecDepth 100000 in
set_option maxHeartbeats 2000000 in
theorem partial_walk (A B C : List (Int × Int)) (a1 a2 a3 : Option Addr) (c1 c2 c3 : Nat) (w : World) (h1 : Sl w (.slice a1 A.length c1) A a1 c1) (h2 : Sl w (.slice a2 B.length c2) B a2 c2) (h3 : Sl w (.slice a3 C.length c3) C a3 c3) :
    Calls Try.prog 7 #[.slice a1 A.length c1, .slice a2 B.length c2, .slice a3 C.length c3] w fun e w' => e = .returned (.bool true) ∧ Below w.heap.size w w' := by
  have U : ∀ {D : List (Int × Int)} {a : Option Addr} {c : Nat} {w' : World}, Sl w (.slice a D.length c) D a c → Below w.heap.size w w' → Sl w' (.slice a D.length c) D a c := fun h b => h.upd (S := fun _ => False) (Upd.of_below b) (fun _ _ _ => id)
  have KAB := hide (fun w' b => veccmp_any A B a1 a2 c1 c2 w' (U h1 b) (U h2 b))
  have KBA := hide (fun w' b => veccmp_any B A a2 a1 c2 c1 w' (U h2 b) (U h1 b))
  have KBC := hide (fun w' b => veccmp_any B C a2 a3 c2 c3 w' (U h2 b) (U h3 b))
  have KAC := hide (fun w' b => veccmp_any A C a1 a3 c1 c3 w' (U h1 b) (U h3 b))
  have KAA := hide (fun w' b => veccmp_any A A a1 a1 c1 c1 w' (U h1 b) (U h1 b))
  have SV := hide (fun w' b => samevec_any A B a1 a2 c1 c2 w' (U h1 b) (U h2 b))
  rw [rel_self] at KAA
  have P := hide (part_cases A B C)
  clear h1 h2 h3 U
  generalize decide (A = B) = sv at *
  generalize rel A B = ab at *
  generalize rel B A = ba at *
  generalize rel B C = bc at *
  generalize rel A C = ac at *
  generalize A.length = na at *
  generalize B.length = nb at *
  generalize C.length = nc at *
  clear A B C
  go_enter Try.func7, Try.ntmps7
  go_wp2_with fail
  refine (alive_true w).mono ?_
  rintro e w1 ⟨rfl, b1⟩
  go_wp2_with fail
  refine (KAB.out w1 b1).mono ?_
  rintro e w2 ⟨rfl, b2'⟩
  have b2 : Below w.heap.size w w2 := b1.trans (b2'.mono b1.size)
  clear b2'
  go_wp2_with fail
  refine (KBA.out w2 b2).mono ?_
  rintro e w3 ⟨rfl, b3'⟩
  have b3 : Below w.heap.size w w3 := b2.trans (b3'.mono b2.size)
  clear b3'
  go_wp2_with fail
  refine (KBC.out w3 b3).mono ?_
  rintro e w4 ⟨rfl, b4'⟩
  have b4 : Below w.heap.size w w4 := b3.trans (b4'.mono b3.size)
  clear b4'
  go_wp2_with fail
  refine (KAC.out w4 b4).mono ?_
  rintro e w5 ⟨rfl, b5'⟩
  have b5 : Below w.heap.size w w5 := b4.trans (b5'.mono b4.size)
  clear b5' b1 b2 b3 b4 KAB KBA KBC KAC
  rcases P.out with ⟨hl, rfl, rfl, rfl⟩ | ⟨hl, rfl, rfl, rfl⟩ | ⟨hl, rfl, rfl, rfl, hh⟩ | ⟨hl, rfl, rfl, rfl⟩ | ⟨hl, rfl, rfl, rfl⟩
  · have f1 : ((na : Int) != (nb : Int)) = true := by simp; omega
    clear P
    go_wp2_with fail
    refine (SV.out w5 b5).mono ?_
    rintro e w6 ⟨rfl, k, rfl⟩
    go_wp2_with fail
    refine (KAA.out _ (below_drewN b5 k)).mono ?_
    rintro e w7 ⟨rfl, b7'⟩
    have b7 : Below w.heap.size w w7 := (below_drewN b5 k).trans (b7'.mono b5.size)
    clear b7' SV KAA
    go_wp2
    go_ret
    exact ⟨rfl, b7⟩
  · subst hl
    clear P
    go_wp2_with fail
    refine (SV.out w5 b5).mono ?_
    rintro e w6 ⟨rfl, k, rfl⟩
    go_wp2_with fail
    refine (KAA.out _ (below_drewN b5 k)).mono ?_
    rintro e w7 ⟨rfl, b7'⟩
    have b7 : Below w.heap.size w w7 := (below_drewN b5 k).trans (b7'.mono b5.size)
    clear b7' SV KAA
    go_wp2
    go_ret
    exact ⟨rfl, b7⟩
  · subst hl
    clear P
    go_wp2_with fail
    refine (SV.out w5 b5).mono ?_
    rintro e w6 ⟨rfl, k, rfl⟩
    go_wp2_with fail
    refine (KAA.out _ (below_drewN b5 k)).mono ?_
    rintro e w7 ⟨rfl, b7'⟩
    have b7 : Below w.heap.size w w7 := (below_drewN b5 k).trans (b7'.mono b5.size)
    clear b7' SV KAA
    rcases hh with ⟨g1, g2⟩ | rfl
    · have f1 : (bc == 2) = false := by simp [g1]
      have f2 : (bc == 1) = false := by simp [g2]
      go_wp2
      go_ret
      exact ⟨rfl, b7⟩
    · by_cases g1 : bc = 2
      · subst g1
        go_wp2
        go_ret
        exact ⟨rfl, b7⟩
      · by_cases g2 : bc = 1
        · subst g2
          go_wp2
          go_ret
          exact ⟨rfl, b7⟩
        · have f1 : (bc == 2) = false := by simp [g1]
          have f2 : (bc == 1) = false := by simp [g2]
          go_wp2
          go_ret
          exact ⟨rfl, b7⟩
  · subst hl
    clear P
    go_wp2_with fail
    refine (SV.out w5 b5).mono ?_
    rintro e w6 ⟨rfl, k, rfl⟩
    go_wp2_with fail
    refine (KAA.out _ (below_drewN b5 k)).mono ?_
    rintro e w7 ⟨rfl, b7'⟩
    have b7 : Below w.heap.size w w7 := (below_drewN b5 k).trans (b7'.mono b5.size)
    clear b7' SV KAA
    go_wp2
    go_ret
    exact ⟨rfl, b7⟩
  · subst hl
    clear P
    go_wp2_with fail
    refine (SV.out w5 b5).mono ?_
    rintro e w6 ⟨rfl, k, rfl⟩
    go_wp2_with fail
    refine (KAA.out _ (below_drewN b5 k)).mono ?_
    rintro e w7 ⟨rfl, b7'⟩
    have b7 : Below w.heap.size w w7 := (below_drewN b5 k).trans (b7'.mono b5.size)
    clear b7' SV KAA
    go_wp2
    go_ret
    exact ⟨rfl, b7⟩

theorem partial_came (a1 a2 a3 : Option Addr) (n1 n2 n3 c1 c2 c3 : Nat) (w : World) (h1 : Came w a1 n1 c1) (h2 : Came w a2 n2 c2) (h3 : Came w a3 n3 c3) :
    Calls Try.prog 7 #[.slice a1 n1 c1, .slice a2 n2 c2, .slice a3 n3 c3] w fun e w' => e = .returned (.bool true) ∧ Below w.heap.size w w' := by
  obtain ⟨A, rfl, s1, _⟩ := h1
  obtain ⟨B, rfl, s2, _⟩ := h2
  obtain ⟨C, rfl, s3, _⟩ := h3
  exact partial_walk A B C a1 a2 a3 c1 c2 c3 w s1 s2 s3

end Go.Proofs.Ytcchnaldanibgaa
