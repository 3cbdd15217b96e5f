import Derived.Test.YtcmjhaljbmhpgaaGreatGOc
import Derived.Test.YtcmjhaljbmhpgaaGreatCg
namespace Go.Proofs.YtcmjhaljbmhpgaaGreat
open Go.RowKit Go.Maps
open Classical
set_option linter.unusedVariables false
set_option linter.unusedSimpArgs false

def vmb (v : Int) : Bool := decide (0 ≤ v ∧ v ≤ 4294967296)
/-- May a log and a commit number be, in a room? -/
def lmb (D : List En) (c r : Int) : Bool := decide ((chk D r).1 = 0 ∧ 0 ≤ c ∧ c ≤ D.length)
theorem viewMayBe_any8 (v : Int) (w : World) : Calls Tryz.prog 194 #[.int .i64 v] w fun e w' => e = .returned (.bool (vmb v)) ∧ w' = w := by
  by_cases h1 : 0 ≤ v
  · by_cases h2 : v ≤ 4294967296
    · have hk : vmb v = true := decide_eq_true ⟨h1, h2⟩
      go_enter Tryz.func194, Tryz.ntmps194
      go_wp2
      go_ret
      exact ⟨by first | rfl | (rw [hk]; rfl), rfl⟩
    · have hk : vmb v = false := decide_eq_false (fun h => h2 h.2)
      go_enter Tryz.func194, Tryz.ntmps194
      go_wp2
      go_ret
      exact ⟨by first | rfl | (rw [hk]; rfl), rfl⟩
  · have hk : vmb v = false := decide_eq_false (fun h => h1 h.1)
    go_enter Tryz.func194, Tryz.ntmps194
    go_wp2
    go_ret
    exact ⟨by first | rfl | (rw [hk]; rfl), rfl⟩
set_option maxRecDepth 100000 in
theorem logMayBe_any8 (L : List En) (a : Option Addr) (n c : Nat) (cm room : Int) (w : World) (h : SlY yE w a n c L) (hf : ∀ e ∈ L, e.fits) :
    Calls Tryz.prog 195 #[.slice a n c, .int .i64 cm, .int .i64 room] w fun e w' => e = .returned (.bool (lmb L cm room)) ∧ Below w.heap.size w w' := by
  have hln := h.len
  have H := hide (checkO_any L a n c room w h hf)
  clear h hf
  have hl : Hid ((L.length : Int) = (n : Int)) := by show _ = _; rw [hln]
  clear hln
  go_enter Tryz.func195, Tryz.ntmps195
  go_wp2_with fail
  refine H.out.mono ?_
  rintro e w1 ⟨rfl, b1⟩
  by_cases hx : (chk L room).1 = 0
  · by_cases h1 : 0 ≤ cm
    · by_cases h2 : cm ≤ (n : Int)
      · have V : Hid (lmb L cm room = true) := decide_eq_true ⟨hx, h1, by rw [hl.out]; exact h2⟩
        have d2 : decide (cm ≤ (n : Int)) = true := decide_eq_true h2
        go_wp2
        go_ret
        exact ⟨by rw [V.out]; first | rfl | (rw [d2]; rfl), b1⟩
      · have V : Hid (lmb L cm room = false) := decide_eq_false (fun h => h2 (by rw [← hl.out]; exact h.2.2))
        have d2 : decide (cm ≤ (n : Int)) = false := decide_eq_false h2
        go_wp2
        go_ret
        exact ⟨by rw [V.out]; first | rfl | (rw [d2]; rfl), b1⟩
    · have V : Hid (lmb L cm room = false) := decide_eq_false (fun h => h1 h.2.1)
      go_wp2
      go_ret
      exact ⟨by rw [V.out]; rfl, b1⟩
  · have V : Hid (lmb L cm room = false) := decide_eq_false (fun h => hx h.1)
    have hq : ((chk L room).1 == 0) = false := by simp [hx]
    go_wp2
    go_ret
    exact ⟨by rw [V.out]; rfl, b1⟩

end Go.Proofs.YtcmjhaljbmhpgaaGreat
