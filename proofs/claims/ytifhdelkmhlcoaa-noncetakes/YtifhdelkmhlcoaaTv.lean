import Derived.Test.YtifhdelkmhlcoaaSd2
import Derived.Test.YtifhdelkmhlcoaaNw
namespace Go.Proofs.Ytifhdelkmhlcoaa
open Go.RowKit
set_option linter.unusedVariables false

theorem same_n (D : List (Int × Int)) (n : Nat) (hn : D.length = n) (a1 a2 : Option Addr) (c1 c2 : Nat) (w : World) (h1 : Sl w (.slice a1 n c1) D a1 c1) (h2 : Sl w (.slice a2 n c2) D a2 c2) :
    Calls Try.prog 24 #[.slice a1 n c1, .slice a2 n c2] w fun e w' => e = .returned (.bool true) ∧ ∃ k, w' = w.drewN k := by
  subst hn
  exact same_draws D a1 a2 c1 c2 w h1 h2
theorem Lie.take {w : World} {q o : Nat} {D : List (Int × Int)} (h : Lie w q o D) (j : Nat) : Lie w q o (D.take j) := fun i d hd => h i d (by
  rw [List.getElem?_take] at hd
  split at hd
  · exact hd
  · cases hd)
theorem Lie.drop {w : World} {q o : Nat} {D : List (Int × Int)} (h : Lie w q o D) (j : Nat) : Lie w q (o + j * 2) (D.drop j) := fun i d hd => by
  have := h (j + i) d (by rw [List.getElem?_drop] at hd; exact hd)
  rw [show o + j * 2 + i * 2 = o + (j + i) * 2 from by omega]
  exact this
theorem Sl.take {w : World} {D : List (Int × Int)} {a : Option Addr} {n c : Nat} (h : Sl w (.slice a n c) D a c) (j : Nat) (hj : j ≤ D.length) : Sl w (.slice a j c) (D.take j) a c := by
  have hl : (D.take j).length = j := by rw [List.length_take]; omega
  refine ⟨by rw [hl], by have := h.cap; omega, h.max, fun e => ?_, fun x hx => ?_⟩
  · obtain ⟨e1, e2⟩ := h.nil e
    rw [e1]
    exact ⟨by simp, e2⟩
  · rcases h.at_ x hx with ⟨e, e2⟩ | ⟨q, o, rfl, hq, hl⟩
    · exact .inl ⟨by rw [e]; simp, e2⟩
    · exact .inr ⟨q, o, rfl, hq, hl.take j⟩
theorem OwnD.sln {B : Nat} {w : World} {v : Value} {D : List (Int × Int)} (h : OwnD B w v D) {j : Nat} (hj : D.length = j) : ∃ a c, v = .slice a j c ∧ Sl w (.slice a j c) D a c ∧ ∀ z, a = some z → ∃ g, z = ⟨g, 0, none⟩ ∧ B ≤ g ∧ g < w.heap.size := by
  subst hj
  obtain ⟨a, c, rfl, h1, h2, h3, h4⟩ := h.form
  obtain ⟨a', c', hs, _⟩ := h.sl
  obtain ⟨rfl, rfl⟩ : a' = a ∧ c' = c := by have := hs.form; cases this; exact ⟨rfl, rfl⟩
  exact ⟨a', c', rfl, hs, h4⟩

/-- Where a turn of NonceTakes stands: what is left, as a list; the slice of what is wanted. -/
def TS (w0 w : World) (s : Nat) (E : List (Int × Int)) (aw : Option Addr) (cw : Nat) : Prop :=
  Sl w (.slice aw E.length cw) E aw cw ∧ (∀ z, aw = some z → E ≠ [] → z.block < w0.heap.size) ∧ (∃ a' c', Str w s E a' c' ∧ ∀ z, a' = some z → w0.heap.size ≤ z.block) ∧ w0.heap.size ≤ s ∧ Below w0.heap.size w0 w
/-- .. behind its Take. -/
structure TT (w0 w w2 : World) (s : Nat) (E : List (Int × Int)) (j : Nat) (aw : Option Addr) (cw : Nat) : Prop where
  sl : Sl w2 (.slice aw E.length cw) E aw cw
  aw : ∀ z, aw = some z → E ≠ [] → z.block < w0.heap.size
  str : ∃ a' c', Str w2 s (E.drop j) a' c' ∧ ∀ z, a' = some z → w0.heap.size ≤ z.block ∧ z.block < w.heap.size
  s0 : w0.heap.size ≤ s
  s1 : s < w.heap.size
  bel : Below w0.heap.size w0 w2
  siz : w.heap.size ≤ w2.heap.size
  w0w : w0.heap.size ≤ w.heap.size
theorem TS.take {w0 w : World} {s : Nat} {E : List (Int × Int)} {aw : Option Addr} {cw : Nat} (h : TS w0 w s E aw cw) (n : Nat) (hn : n ≤ 65535) :
    Calls Try.prog 23 #[.iface 41 (.pointer (some ⟨s, 0, none⟩)), .int .i64 n] w fun e w' => ∃ v, e = .returned (.tuple #[v, .int .i64 (tkE n E.length)]) ∧ OwnD w.heap.size w' v (E.take n) ∧ TT w0 w w' s E n aw cw := by
  obtain ⟨h1, h2, ⟨a', c', T, hz⟩, h4, h5⟩ := h
  refine (take_any s n E a' c' w T hn).mono ?_
  rintro e w2 ⟨v, rfl, o, ⟨a2, c2, T2, hb2⟩, u⟩
  refine ⟨v, rfl, o, ⟨h1.upd u (fun z hz' hE => ?_), h2, ⟨a2, c2, T2, fun z hz' => ?_⟩, h4, T.lt, h5.trans (u.below h5.size (by rintro k rfl; exact h4)), u.size, h5.size⟩⟩
  · have := h2 z hz' hE
    show ¬ z.block = s
    omega
  · obtain ⟨z', hz2, e⟩ := hb2 z.block ⟨z, hz', rfl⟩
    have hq := T.blk z' hz2
    have := hz _ hz2
    omega
/-- Behind the Take nothing below its own memory has changed; what is wanted goes on. -/
theorem TT.next {w0 w w2 w5 : World} {s : Nat} {E : List (Int × Int)} {j : Nat} {aw : Option Addr} {cw : Nat} (h : TT w0 w w2 s E j aw cw) (b : Below w.heap.size w2 w5) (hj : j ≤ E.length) (aw' : Option Addr) (cw' : Nat)
    (ha : (∃ x, aw = some x ∧ cw = j ∧ aw' = some x ∧ cw' = 0) ∨ (∃ q o, aw = some ⟨q, o, none⟩ ∧ cw ≠ j ∧ aw' = some ⟨q, o + j * 2, none⟩ ∧ cw' = cw - j) ∨ (aw = none ∧ aw' = none ∧ cw' = 0)) : TS w0 w5 s (E.drop j) aw' cw' := by
  obtain ⟨h1, h2, ⟨a', c', T, hz⟩, h4, h5, h6, h7, h8⟩ := h
  have hc := h1.cap
  have hm := h1.max
  have s5 := b.size
  refine ⟨?_, ?_, ⟨a', c', T.upd (Upd.of_below' b) (by show ¬ w.heap.size ≤ s; omega) (fun z hz' => by have := (hz z hz').2; show ¬ w.heap.size ≤ z.block; omega), fun z hz' => (hz z hz').1⟩, h4, h6.trans (b.mono h8)⟩
  · rcases ha with ⟨x, rfl, e1, rfl, rfl⟩ | ⟨q, o, rfl, e1, rfl, rfl⟩ | ⟨rfl, rfl, rfl⟩
    · have hd : E.drop j = [] := List.drop_eq_nil_of_le (by omega)
      rw [hd]
      exact ⟨rfl, Nat.le_refl _, by unfold maxLen; omega, (fun e => by cases e), fun x hx => .inl ⟨rfl, rfl⟩⟩
    · by_cases hE : E = []
      · subst hE
        rcases h1.at_ _ rfl with ⟨_, e2⟩ | ⟨q', o', e, hq, hl⟩
        · simp at hj; omega
        · cases e
          exact ⟨by simp, by simp, by omega, (fun e => by cases e), fun x hx => by cases hx; exact .inr ⟨q, _, rfl, by omega, by intro i d hd; simp at hd⟩⟩
      · obtain ⟨q', o', e, hq, hl⟩ : ∃ q' o', (⟨q, o, none⟩ : Addr) = ⟨q', o', none⟩ ∧ q' < w2.heap.size ∧ Lie w2 q' o' E := by
          rcases h1.at_ _ rfl with ⟨e, _⟩ | h
          · exact absurd e hE
          · exact h
        cases e
        have hq0 := h2 _ rfl hE
        simp only at hq0
        have hl5 := hl.upd (Upd.of_below' b) hq (by show ¬ w.heap.size ≤ q; omega)
        exact ⟨rfl, by rw [List.length_drop]; omega, by omega, (fun e => by cases e), fun x hx => by cases hx; exact .inr ⟨q, _, rfl, by omega, hl5.drop j⟩⟩
    · obtain ⟨e1, e2⟩ := h1.nil rfl
      subst e1
      exact ⟨by simp, by simp, by unfold maxLen; omega, fun _ => ⟨by simp, rfl⟩, fun x hx => by cases hx⟩
  · have hsub : E.drop j ≠ [] → E ≠ [] := fun h e => h (by rw [e]; simp)
    rcases ha with ⟨x, rfl, e1, rfl, rfl⟩ | ⟨q, o, rfl, e1, rfl, rfl⟩ | ⟨rfl, rfl, rfl⟩
    · intro z hz hE; cases hz; exact h2 _ rfl (hsub hE)
    · intro z hz hE; cases hz; exact h2 ⟨q, o, none⟩ rfl (hsub hE)
    · intro z hz; cases hz

end Go.Proofs.Ytifhdelkmhlcoaa
