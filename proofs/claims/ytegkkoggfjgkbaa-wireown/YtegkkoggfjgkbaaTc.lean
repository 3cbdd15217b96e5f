import Derived.Test.YtegkkoggfjgkbaaRd
import Derived.Test.YtegkkoggfjgkbaaSm
namespace Go.Proofs.Ytegkkoggfjgkbaa.Wi
open Go.RowKit
set_option linter.unusedVariables false

/-- What reading a number of at most m comes to. -/
def tcErr (m : Int) (l : List Int) : Int := if m < 0 then 3 else if tnErr l ≠ 0 then tnErr l else if m < (tnVal l : Int) then 11 else 0
def tcVal (m : Int) (l : List Int) : Nat := if tcErr m l = 0 then tnVal l else 0
def tcSize (m : Int) (l : List Int) : Nat := if tcErr m l = 0 then tnSize l else 0
theorem tc_bad {m : Int} {l : List Int} (h : tcErr m l ≠ 0) : tcVal m l = 0 ∧ tcSize m l = 0 := by unfold tcVal tcSize; rw [if_neg h, if_neg h]; exact ⟨rfl, rfl⟩
theorem ret3i {a b c : Int} {a' b' c' : Int} (h1 : a = a') (h2 : b = b') (h3 : c = c') : Ending.returned (.tuple #[.int .i64 a, .int .i64 b, .int .i64 c]) = .returned (.tuple #[.int .i64 a', .int .i64 b', .int .i64 c']) := by rw [h1, h2, h3]
def TcPost (m : Int) (l : List Int) (w : World) (e : Ending) (w' : World) : Prop := e = .returned (.tuple #[.int .i64 (tcVal m l), .int .i64 (tcSize m l), .int .i64 (tcErr m l)]) ∧ ∃ k, w' = w.drewN k
theorem TcPost.mk_bad {m : Int} {l : List Int} {w : World} {E : Int} (k : Nat) (h : tcErr m l = E) (hE : E ≠ 0) : TcPost m l w (.returned (.tuple #[.int .i64 0, .int .i64 0, .int .i64 E])) (w.drewN k) := by
  obtain ⟨h1, h2⟩ := tc_bad (m := m) (l := l) (by rw [h]; exact hE)
  exact ⟨ret3i (by rw [h1]; rfl) (by rw [h2]; rfl) h.symm, k, rfl⟩

set_option maxRecDepth 100000 in
theorem tc_any (a : Option Addr) (n c : Nat) (l : List Int) (m : Int) (w : World) (h : Hs w a n c l) (hm : c ≤ maxLen) (q : m ≤ 9223372036854775807) :
    Calls Try.prog 68 #[.slice a n c, .int .i64 m] w fun e w' => TcPost m l w e w' := by
  by_cases hm0 : m < 0
  · have H : Hid (tcErr m l = 3) := by unfold tcErr; rw [if_pos hm0]; rfl
    go_enter Try.func68, Try.ntmps68
    go_wp2
    go_ret3
    exact TcPost.mk_bad 0 H.out (by decide)
  · obtain ⟨q0, rfl⟩ := Int.eq_ofNat_of_zero_le (Int.not_lt.1 hm0)
    have HT := hide (tn_any a n c l w h hm)
    clear h hm0
    by_cases hE : tnErr l = 0
    · by_cases hV : q0 < tnVal l
      · have H : Hid (tcErr q0 l = 11) := by unfold tcErr; rw [if_neg (by omega), if_neg (by simp [hE]), if_pos (by omega)]; rfl
        go_enter Try.func68, Try.ntmps68
        go_wp2_with fail
        refine HT.out.mono ?_
        rintro e w' ⟨rfl, k, rfl⟩
        rw [hE]
        clear HT hE
        generalize tnVal l = V at *
        generalize tnSize l = S at *
        go_wp2
        go_ret3
        exact TcPost.mk_bad k H.out (by decide)
      · have H : Hid (tcErr q0 l = 0) := by unfold tcErr; rw [if_neg (by omega), if_neg (by simp [hE]), if_neg (by omega)]; rfl
        have H1 : Hid (tcVal q0 l = tnVal l) := by unfold tcVal; rw [if_pos H.out]; rfl
        have H2 : Hid (tcSize q0 l = tnSize l) := by unfold tcSize; rw [if_pos H.out]; rfl
        go_enter Try.func68, Try.ntmps68
        go_wp2_with fail
        refine HT.out.mono ?_
        rintro e w' ⟨rfl, k, rfl⟩
        rw [hE]
        clear HT hE
        generalize tnVal l = V at *
        generalize tnSize l = S at *
        go_wp2
        go_ret3
        exact ⟨ret3i (by rw [H1.out]) (by rw [H2.out]) (by rw [H.out]), k, rfl⟩
    · have H : Hid (tcErr q0 l = tnErr l) := by unfold tcErr; rw [if_neg (by omega), if_pos hE]; rfl
      have hb : (tnErr l != 0) = true := by simp [hE]
      go_enter Try.func68, Try.ntmps68
      go_wp2_with fail
      refine HT.out.mono ?_
      rintro e w' ⟨rfl, k, rfl⟩
      clear HT
      generalize tnVal l = V at *
      generalize tnSize l = S at *
      generalize tnErr l = E at *
      go_wp2
      go_ret3
      exact TcPost.mk_bad k H.out hE
#print axioms tc_any

end Go.Proofs.Ytegkkoggfjgkbaa.Wi
