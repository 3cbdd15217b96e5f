import Derived.Test.YtcmjhaljbmhpgaaGreatSwy
namespace Go.Proofs.YtcmjhaljbmhpgaaGreat
open Go.RowKit Go.Maps
open Classical
set_option linter.unusedVariables false
set_option linter.unusedSimpArgs false

/-- SameAnswers of two lists that are alike. -/
theorem An.same_own {B B' : Nat} (R R' : List An) (v v' : Value) (w : World) (h : OwnY yAnA B w v R) (h' : OwnY yAnA B' w v' R') (hl : An.Likes R R') (iR : ∀ x ∈ R, x.In w) (iR' : ∀ x ∈ R', x.In w) :
    Calls Tryz.prog 35 #[v, v'] w fun e w' => e = .returned (.bool true) ∧ ∃ k, w' = w.drewN k := by
  obtain ⟨a, c, rfl, s, _⟩ := h.sl kAnA
  obtain ⟨a', c', rfl, s', _⟩ := h'.sl kAnA
  rw [hl.len] at s' ⊢
  exact An.same_any R R' a a' _ c c' w s s' (fun i x y hx hy => hl.at_ i x y hx hy) iR iR'
set_option maxRecDepth 100000 in
set_option maxHeartbeats 400000 in
theorem An.kept_any (L R : List An) (g c : Nat) (a : Option Addr) (n k : Nat) (w : World) (h1 : SlY yAnA w (some ⟨g, 0, none⟩) n c R) (h2 : SlY yAnA w (some ⟨g, 0, none⟩) (n + 1) c (R ++ [An.z77])) (h3 : SlY yAnA w a n k L) (hl : An.Likes L R) (iL : ∀ x ∈ L, x.In w) (iR : ∀ x ∈ R, x.In w) :
    Calls Tryz.prog 42 #[.slice (some ⟨g, 0, none⟩) n c, .slice a n k] w fun e w' => e = .returned (.bool true) ∧ ∃ d, w' = w.drewN d := by
  have hc := h2.cap
  have hmx := h2.max
  unfold maxLen at hmx
  have hln := h1.len
  have cs := hide (An.same_any R L _ a n c k w h1 h3 (fun i x y hx hy => hl.symm.at_ i x y hx hy) iR iL)
  have hx : (R ++ [An.z77])[n]? = some An.z77 := by rw [List.getElem?_append_right (by omega), hln, Nat.sub_self]; rfl
  have KS : Hid (∀ d, (w.drewN d).cell? ⟨g, 0 + n * 6, none⟩ = some (.int .i64 (-77))) := fun d => by
    obtain ⟨q', o', e, _, y0, _⟩ := (h2.drewN d).AnA hx
    cases e
    exact y0
  have hw : IntKind.i64.wrap ((n : Int) + 1) = (n : Int) + 1 := by rw [IntKind.wrap_i64]; omega
  clear h1 h2 h3 hln hx iL iR hl
  go_enter Tryz.func42, Tryz.ntmps42
  go_wp2_with fail
  refine cs.out.mono ?_
  rintro e w1 ⟨rfl, d, rfl⟩
  dsimp only
  have y0 := KS.out d
  simp only [Nat.zero_add] at y0
  clear cs
  go_wp2
  go_ret
  exact ⟨rfl, d, rfl⟩

end Go.Proofs.YtcmjhaljbmhpgaaGreat
