import Derived.Test.YtegkkoggfjgkbaaTc
import Derived.Test.YtegkkoggfjgkbaaCm
namespace Go.Proofs.Ytegkkoggfjgkbaa.Wi
open Go.RowKit
set_option linter.unusedVariables false

/-- What reading a text of at most m bytes comes to. -/
def ttErr (m : Int) (l : List Int) : Int := if tcErr m l ≠ 0 then tcErr m l else if l.length < tcSize m l + tcVal m l then 10 else 0
def ttList (m : Int) (l : List Int) : List Int := if ttErr m l = 0 then (l.drop (tcSize m l)).take (tcVal m l) else []
def ttSize (m : Int) (l : List Int) : Nat := if ttErr m l = 0 then tcSize m l + tcVal m l else 0
theorem tt_bad {m : Int} {l : List Int} (h : ttErr m l ≠ 0) : ttList m l = [] ∧ ttSize m l = 0 := by unfold ttList ttSize; rw [if_neg h, if_neg h]; exact ⟨rfl, rfl⟩
theorem ret3s {a a' : ByteArray} {b c : Int} {b' c' : Int} (h1 : a = a') (h2 : b = b') (h3 : c = c') : Ending.returned (.tuple #[.string a, .int .i64 b, .int .i64 c]) = .returned (.tuple #[.string a', .int .i64 b', .int .i64 c']) := by rw [h1, h2, h3]
def TtPost (m : Int) (l : List Int) (w : World) (e : Ending) (w' : World) : Prop := e = .returned (.tuple #[.string (strOfNums (ttList m l)), .int .i64 (ttSize m l), .int .i64 (ttErr m l)]) ∧ ∃ k, w' = w.drewN k
theorem TtPost.mk_bad {m : Int} {l : List Int} {w : World} {E : Int} (k : Nat) (h : ttErr m l = E) (hE : E ≠ 0) : TtPost m l w (.returned (.tuple #[.string (strOfNums []), .int .i64 0, .int .i64 E])) (w.drewN k) := by
  obtain ⟨h1, h2⟩ := tt_bad (m := m) (l := l) (by rw [h]; exact hE)
  exact ⟨ret3s (by rw [h1]) (by rw [h2]; rfl) h.symm, k, rfl⟩
theorem Hs.rest' {w : World} {g o n c : Nat} {l : List Int} (h : Hs w (some ⟨g, o, none⟩) n c l) (p : Nat) (hp : p ≤ n) : Hs w (some ⟨g, o + p, none⟩) (n - p) (c - p) (l.drop p) := by
  refine ⟨by rw [List.length_drop, h.len], by have := h.cap; omega, fun x hx => ?_, fun hx => by (cases hx), fun z hz => h.byte z (List.mem_of_mem_drop hz)⟩
  cases hx
  exact (h.row _ rfl).drop p
theorem tcSize_le (m : Int) (l : List Int) (h : ∀ z ∈ l, 0 ≤ z ∧ z < 256) : tcSize m l ≤ l.length ∧ tcSize m l ≤ 9 := by
  have := tnSize_le l h
  unfold tcSize
  split <;> omega
theorem tcVal_le (m : Int) (l : List Int) (hm : m ≤ 9223372036854775807) : (tcVal m l : Int) ≤ 9223372036854775807 := by
  by_cases h : tcErr m l = 0
  · have h2 : tcVal m l = tnVal l := by unfold tcVal; rw [if_pos h]
    rw [h2]
    unfold tcErr at h
    split at h
    · cases h
    · split at h
      · rename_i h3; exact absurd h h3
      · split at h
        · cases h
        · omega
  · rw [(tc_bad h).1]; decide

set_option maxRecDepth 100000 in
set_option maxHeartbeats 400000 in
theorem tt_any (a : Option Addr) (n c : Nat) (l : List Int) (m : Int) (w : World) (h : Hs w a n c l) (hm : c ≤ maxLen) (q : m ≤ 9223372036854775807) :
    Calls Try.prog 47 #[.slice a n c, .int .i64 m] w fun e w' => TtPost m l w e w' := by
  have HT := hide (tc_any a n c l m w h hm q)
  have hln := h.len
  have hcap := h.cap
  have hsz := tcSize_le m l h.byte
  have hvl := tcVal_le m l q
  unfold maxLen at hm
  by_cases hE : tcErr m l = 0
  · by_cases hS : l.length < tcSize m l + tcVal m l
    · have H : Hid (ttErr m l = 10) := by unfold ttErr; rw [if_neg (by simp [hE]), if_pos hS]; rfl
      rw [hln] at hS hsz
      clear h
      go_enter Try.func47, Try.ntmps47
      go_wp2_with fail
      refine HT.out.mono ?_
      rintro e w' ⟨rfl, k, rfl⟩
      rw [hE]
      clear HT hE hln
      generalize tcVal m l = V at *
      generalize tcSize m l = S at *
      obtain ⟨hs1, hs2⟩ := hsz
      have hlt : (n : Int) - (S : Int) < (V : Int) := by omega
      go_wp2
      go_ret3
      exact TtPost.mk_bad k H.out (by decide)
    · have H : Hid (ttErr m l = 0) := by unfold ttErr; rw [if_neg (by simp [hE]), if_neg hS]; rfl
      have H1 : Hid (ttList m l = (l.drop (tcSize m l)).take (tcVal m l)) := by unfold ttList; rw [if_pos H.out]; rfl
      have H2 : Hid (ttSize m l = tcSize m l + tcVal m l) := by unfold ttSize; rw [if_pos H.out]; rfl
      have hne : 0 < n := by
        rw [← hln]
        refine List.length_pos_iff.2 ?_
        rintro rfl
        unfold tcErr at hE
        split at hE
        · cases hE
        · simp [tnErr] at hE
      cases a with
      | none => rw [(h.nil rfl).1] at hln; simp at hln; omega
      | some x =>
      obtain ⟨b, o, rfl⟩ := h.flat hne
      rw [hln] at hS hsz
      obtain ⟨hs1, hs2⟩ := hsz
      have hR := (h.rest' (tcSize m l) hs1).cut (tcVal m l) (by omega)
      rw [← H1.out] at hR
      by_cases hSc : tcSize m l < c
      · have kc := fun j => conv_hs (w.drewN j) _ _ _ _ (hR.later (below_drewN (Below.refl _ _) j))
        clear h hR hln hne
        go_enter Try.func47, Try.ntmps47
        go_wp2_with fail
        refine HT.out.mono ?_
        rintro e w' ⟨rfl, k, rfl⟩
        rw [hE]
        clear HT hE H1
        generalize tcVal m l = V at *
        generalize tcSize m l = S at *
        generalize hL : ttList m l = L at *
        have hge : ¬ ((n : Int) - (S : Int) < (V : Int)) := by omega
        go_wp2
        go_ret3
        exact ⟨ret3s (by rw [hL]) (by rw [H2.out]; omega) (by rw [H.out]), k, rfl⟩
      · have e1 : n = c := by omega
        have e2 : tcSize m l = c := by omega
        have e3 : tcVal m l = 0 := by omega
        have eL : ttList m l = [] := by rw [H1.out, e3]; rfl
        have hZ : Hs w (some ⟨b, o, none⟩) 0 0 [] := ⟨rfl, Nat.le_refl _, fun x hx i hi => by (simp at hi), fun hx => by (cases hx), fun z hz => by (cases hz)⟩
        have kc := fun j => conv_hs (w.drewN j) _ _ _ _ (hZ.later (below_drewN (Below.refl _ _) j))
        have hsz2 : ttSize m l = c := by rw [H2.out, e2, e3, Nat.add_zero]
        have HSZ := hide hsz2
        have HEL := hide eL
        clear h hR hln H1 H2 hS hSc hs1 hZ eL hsz2
        rw [e2] at hs2
        subst e1
        go_enter Try.func47, Try.ntmps47
        go_wp2_with fail
        refine HT.out.mono ?_
        rintro e w' ⟨rfl, k, rfl⟩
        rw [hE, e2, e3]
        clear HT hE e2 e3 hvl
        go_wp2
        go_ret3
        exact ⟨ret3s (by rw [HEL.out]) (by rw [HSZ.out]) (by rw [H.out]), k, rfl⟩
  · have H : Hid (ttErr m l = tcErr m l) := by unfold ttErr; rw [if_pos hE]; rfl
    have hb : (tcErr m l != 0) = true := by simp [hE]
    clear h
    go_enter Try.func47, Try.ntmps47
    go_wp2_with fail
    refine HT.out.mono ?_
    rintro e w' ⟨rfl, k, rfl⟩
    clear HT
    generalize tcVal m l = V at *
    generalize tcSize m l = S at *
    generalize tcErr m l = E at *
    go_wp2
    go_ret3
    exact TtPost.mk_bad k H.out hE
#print axioms tt_any

end Go.Proofs.Ytegkkoggfjgkbaa.Wi
