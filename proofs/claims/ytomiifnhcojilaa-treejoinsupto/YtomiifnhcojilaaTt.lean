import Derived.Test.YtomiifnhcojilaaTc
import Derived.Test.YtomiifnhcojilaaCm
namespace Go.Proofs.Ytomiifnhcojilaa.Wi
open Go.RowKit
set_option linter.unusedVariables false

/-- What reading a text of at most m bytes comes to. -/
def ttErr (m : Int) (l : List Int) : Int := if tcErr m l ≠ 0 then tcErr m l else if l.length < tcSize m l + tcVal m l then 10 else 0
def ttList (m : Int) (l : List Int) : List Int := if ttErr m l = 0 then (l.drop (tcSize m l)).take (tcVal m l) else []
def ttSize (m : Int) (l : List Int) : Nat := if ttErr m l = 0 then tcSize m l + tcVal m l else 0
theorem tt_bad {m : Int} {l : List Int} (h : ttErr m l ≠ 0) : ttList m l = [] ∧ ttSize m l = 0 := by unfold ttList ttSize; rw [if_neg h, if_neg h]; exact ⟨rfl, rfl⟩
theorem ret3s {a a' : ByteArray} {b c : Int} {b' c' : Int} (h1 : a = a') (h2 : b = b') (h3 : c = c') : Ending.returned (.tuple #[.string a, .int .i64 b, .int .i64 c]) = .returned (.tuple #[.string a', .int .i64 b', .int .i64 c']) := by rw [h1, h2, h3]
def TtPost (m : Int) (l : List Int) (w : World) (e : Ending) (w' : World) : Prop := e = .returned (.tuple #[.string (strOfNums (ttList m l)), .int .i64 (ttSize m l), .int .i64 (ttErr m l)]) ∧ ∃ k, w' = w.drewN k
theorem TtPost.mk_bad {m : Int} {l : List Int} {w : World} {E : Int} (k : Nat) (h : ttErr m l = E) (hE : E ≠ 0) : TtPost m l w (.returned (.tuple #[.string (strOfNums []), .int .i64 0, .int .i64 E])) (w.drewN k) := by
  obtain ⟨h1, h2⟩ := tt_bad (m := m) (l := l) (by rw [h]; exact hE)
  exact ⟨ret3s (by rw [h1]) (by rw [h2]; rfl) h.symm, k, rfl⟩
theorem Hs.rest' {w : World} {g o n c : Nat} {l : List Int} (h : Hs w (some ⟨g, o, none⟩) n c l) (p : Nat) (hp : p ≤ n) : Hs w (some ⟨g, o + p, none⟩) (n - p) (c - p) (l.drop p) := by
  refine ⟨by rw [List.length_drop, h.len], by have := h.cap; omega, fun x hx => ?_, fun hx => by (cases hx), fun z hz => h.byte z (List.mem_of_mem_drop hz)⟩
  cases hx
  exact (h.row _ rfl).drop p
theorem tcSize_le (m : Int) (l : List Int) (h : ∀ z ∈ l, 0 ≤ z ∧ z < 256) : tcSize m l ≤ l.length ∧ tcSize m l ≤ 9 := by
  have := tnSize_le l h
  unfold tcSize
  split <;> omega
theorem tcVal_le (m : Int) (l : List Int) (hm : m ≤ 9223372036854775807) : (tcVal m l : Int) ≤ 9223372036854775807 := by
  by_cases h : tcErr m l = 0
  · have h2 : tcVal m l = tnVal l := by unfold tcVal; rw [if_pos h]
    rw [h2]
    unfold tcErr at h
    split at h
    · cases h
    · split at h
      · rename_i h3; exact absurd h h3
      · split at h
        · cases h
        · omega
  · rw [(tc_bad h).1]; decide

end Go.Proofs.Ytomiifnhcojilaa.Wi
