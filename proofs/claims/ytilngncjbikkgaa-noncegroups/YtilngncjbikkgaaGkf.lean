import Derived.Test.YtilngncjbikkgaaGke
namespace Go.Proofs.Ytilngncjbikkgaa
open Go.RowKit
set_option linter.unusedVariables false
set_option linter.unusedSimpArgs false

section
variable {w : World} {B g pg mg n cp cm : Nat} {vt : Value} {k R : Int} {rd : Nat → Int} {md : Nat → Nat} {v : Nat → Value} {s : Nat → Int} {L : List (Int × Int × Int)}
theorem rgset_clock (x : Int) (h : RG w B g pg mg n cp cm vt 1 R rd md v s L) (h0 : 0 ≤ x) (h1 : x ≤ 18446744073709551615) :
    Calls Try.prog 16 #[.pointer (some ⟨g, 0, none⟩), .int .u64 x] w fun e w' => e = .returned (.int .i64 (sE R x)) ∧ RG w' B g pg mg n cp cm vt 1 (sR R x) rd md v s L ∧ Upd (· = g) w w' := by
  have c0 := h.c0
  have H := hide h
  have CC := hide (qset_any g 1 R x w h.clk h1)
  clear h
  go_enter Try.func16, Try.ntmps16
  go_wp2_with fail
  refine CC.out.mono ?_
  rintro e w1 ⟨rfl, hw1⟩
  have RN : Hid (RG w1 B g pg mg n cp cm vt 1 (sR R x) rd md v s L ∧ Upd (· = g) w w1) := by
    unfold sR
    by_cases hx : x < R
    · rw [if_pos hx] at hw1 ⊢; subst hw1; exact ⟨H.out, Upd.refl _ _⟩
    · rw [if_neg hx] at hw1 ⊢; subst hw1; exact ⟨H.out.putR x h0 h1, upd_one' _ _ _ _⟩
  clear hw1 CC c0
  go_wp2
  go_ret
  exact ⟨rfl, RN.out⟩
theorem rgpass_clock (x : Int) (h : RG w B g pg mg n cp cm vt 1 R rd md v s L) (h0 : 0 ≤ x) :
    Calls Try.prog 18 #[.pointer (some ⟨g, 0, none⟩), .int .u64 x] w fun e w' => e = .returned (.int .i64 (pE R x)) ∧ RG w' B g pg mg n cp cm vt 1 (pR R x) rd md v s L ∧ Upd (· = g) w w' := by
  have c0 := h.c0
  have H := hide h
  have CC := hide (qpass_any g 1 R x w h.clk h0)
  clear h
  go_enter Try.func18, Try.ntmps18
  go_wp2_with fail
  refine CC.out.mono ?_
  rintro e w1 ⟨rfl, hw1⟩
  have RN : Hid (RG w1 B g pg mg n cp cm vt 1 (pR R x) rd md v s L ∧ Upd (· = g) w w1) := by
    have := H.out.clk.lo
    unfold pR
    by_cases hx : R + x ≤ 18446744073709551615
    · rw [if_pos hx] at hw1 ⊢; subst hw1; exact ⟨H.out.putR (R + x) (by omega) hx, upd_one' _ _ _ _⟩
    · rw [if_neg hx] at hw1 ⊢; subst hw1; exact ⟨H.out, Upd.refl _ _⟩
  clear hw1 CC c0
  go_wp2
  go_ret
  exact ⟨rfl, RN.out⟩
theorem rgset_mixed (x : Int) (c0 : w.cell? ⟨g, 0, none⟩ = some (.int .i64 2)) :
    Calls Try.prog 16 #[.pointer (some ⟨g, 0, none⟩), .int .u64 x] w fun e w' => e = .returned (.int .i64 0) ∧ w' = w := by
  go_enter Try.func16, Try.ntmps16
  go_wp2
  go_ret
  exact ⟨rfl, rfl⟩
theorem rgpass_mixed (x : Int) (c0 : w.cell? ⟨g, 0, none⟩ = some (.int .i64 2)) :
    Calls Try.prog 18 #[.pointer (some ⟨g, 0, none⟩), .int .u64 x] w fun e w' => e = .returned (.int .i64 0) ∧ w' = w := by
  go_enter Try.func18, Try.ntmps18
  go_wp2
  go_ret
  exact ⟨rfl, rfl⟩
theorem rgwipe_bad (i : Int) (h : RG w B g pg mg n cp cm vt k R rd md v s L) (hk : ¬ (0 ≤ i ∧ i < (n : Int))) :
    Calls Try.prog 20 #[.pointer (some ⟨g, 0, none⟩), .int .i64 i] w fun e w' => e = .returned (.int .i64 3) ∧ w' = w := by
  have c2 := h.c2
  have hcp := h.cap.1
  have h7 := h.n7
  clear h
  by_cases h1 : i < 0
  · have d1 : decide (i < 0) = true := by simp; omega
    go_enter Try.func20, Try.ntmps20
    go_wp2
    go_ret
    exact ⟨rfl, rfl⟩
  · have d1 : decide (i < 0) = false := by simp; omega
    have d2 : decide ((n : Int) ≤ i) = true := by simp; omega
    go_enter Try.func20, Try.ntmps20
    go_wp2
    go_ret
    exact ⟨rfl, rfl⟩
theorem rgwipe_mixed (j : Nat) (h : RG w B g pg mg n cp cm vt 2 R rd md v s L) (hj : j < n) :
    Calls Try.prog 20 #[.pointer (some ⟨g, 0, none⟩), .int .i64 (j : Int)] w fun e w' => e = .returned (.int .i64 0) ∧ w' = w := by
  have c0 := h.c0
  have c2 := h.c2
  have hcp := h.cap.1
  have h7 := h.n7
  clear h
  have d1 : decide ((j : Int) < 0) = false := decide_eq_false (by omega)
  have d2 : decide ((n : Int) ≤ (j : Int)) = false := by simp; omega
  go_enter Try.func20, Try.ntmps20
  go_wp2
  go_ret
  exact ⟨rfl, rfl⟩
theorem rgwipe_clock (j : Nat) (h : RG w B g pg mg n cp cm vt 1 R rd md v s L) (hj : j < n) :
    Calls Try.prog 20 #[.pointer (some ⟨g, 0, none⟩), .int .i64 (j : Int)] w fun e w' => e = .returned (.int .i64 0) ∧ RG w' B g pg mg n cp cm vt 1 R (fun i => if i = j then 0 else rd i) (fun i => if i = j then 0 else md i) (fun i => if i = j then .slice none 0 0 else v i) s L ∧ Upd (· = pg) w w' := by
  have c0 := h.c0
  have c2 := h.c2
  have hcp := h.cap.1
  have h7 := h.n7
  have H := hide h
  have WW := hide (qwipe_any B pg (j * 2) g 1 _ _ (rd j) (md j) (v j) w (h.pairs hj))
  clear h
  have d1 : decide ((j : Int) < 0) = false := decide_eq_false (by omega)
  have d2 : decide ((n : Int) ≤ (j : Int)) = false := by simp; omega
  go_enter Try.func20, Try.ntmps20
  go_wp2_with fail
  refine WW.out.mono ?_
  rintro e w1 ⟨rfl, q, u⟩
  have RN := hide (H.out.putP hj q (.inr (.inl rfl)) (u.mono (fun _ _ e => .inl e)))
  have UU := hide u
  clear q u WW
  go_wp2
  go_ret
  exact ⟨rfl, RN.out, UU.out⟩
end

end Go.Proofs.Ytilngncjbikkgaa
