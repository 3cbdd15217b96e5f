import Derived.Test.YtnhonkgondljjaaGSm
namespace Go.Proofs.Ytnhonkgondljjaa
open Go.RowKit Go.Maps
open Classical
set_option linter.unusedVariables false
set_option linter.unusedSimpArgs false

set_option maxRecDepth 100000 in
set_option maxHeartbeats 1000000 in
theorem samemarks0_any (L : List Mk) (a b : Option Addr) (n c c2 : Nat) (w : World) (hL : SlY yMkA w a n c L) (hR : SlY yMkA w b n c2 L) :
    Calls Try.prog 50 #[.slice a n c, .slice b n c2] w fun e w' => e = .returned (.bool true) ∧ ∃ k, w' = w.drewN k := by
  have m1 := hL.max
  have m2 := hR.max
  have p1 := hL.cap
  have p2 := hR.cap
  unfold maxLen at m1 m2
  have HL := hide hL
  have HR := hide hR
  have N1 := hide hL.len
  clear hL hR
  go_enter Try.func50, Try.ntmps50
  go_wp2
  go_loopw [5] (fun i wr => ∃ (j d : Nat), i = .int .i64 (j : Int) ∧ j ≤ n ∧ wr = w.drewN d) (fun i _ => n - (intOf i).toNat)
  case atStart => exact ⟨0, 0, rfl, Nat.zero_le _, rfl⟩
  case round =>
    obtain ⟨j, d, rfl, hj, rfl⟩ := hrel
    by_cases hlt : j < n
    · have h1 : j < L.length := by rw [N1.out]; exact hlt
      have g1 : L[j]? = some L[j] := List.getElem?_eq_getElem h1
      obtain ⟨q, o, rfl, hq, a0, a1, a2⟩ := HL.out.MkA g1
      obtain ⟨q2, o2, rfl, hq2, b0, b1, b2⟩ := HR.out.MkA g1
      clear g1
      generalize L[j] = x at *
      have KC : Hid (∀ v, (∃ k, v = w.drewN k) → (v.cell? ⟨q, o + j * 3, none⟩ = some (.int .i64 x.n) ∧ v.cell? ⟨q, o + j * 3 + 1, none⟩ = some (.int .u64 x.h) ∧ v.cell? ⟨q, o + j * 3 + 2, none⟩ = some (.int .u64 x.l)) ∧ (v.cell? ⟨q2, o2 + j * 3, none⟩ = some (.int .i64 x.n) ∧ v.cell? ⟨q2, o2 + j * 3 + 1, none⟩ = some (.int .u64 x.h) ∧ v.cell? ⟨q2, o2 + j * 3 + 2, none⟩ = some (.int .u64 x.l))) := fun v hv => by
        obtain ⟨k, rfl⟩ := hv
        exact ⟨⟨a0, a1, a2⟩, ⟨b0, b1, b2⟩⟩
      clear a0 a1 a2 b0 b1 b2
      go_wp2_with fail
      refine region_q9 (C := fun v => ∃ k, v = w.drewN k) (by kernel_rfl) (by kernel_rfl) ⟨d + 1, rfl⟩ ?_
      refine wqv (u := .slice (some ⟨q, o, none⟩) n c) (by kernel_rfl) (fun v hv => by kernel_rfl) ?_
      simp only [Act.put, List.setIfInBounds_toArray, List.set_cons_zero, List.set_cons_succ]
      refine wqv (u := .int .i64 (j : Int)) (by kernel_rfl) (fun v hv => by kernel_rfl) ?_
      simp only [Act.put, List.setIfInBounds_toArray, List.set_cons_zero, List.set_cons_succ]
      refine wqv (u := .pointer (some ⟨q, o + j * 3, none⟩)) (by kernel_rfl) (fun v hv => by go_simp) ?_
      simp only [Act.put, List.setIfInBounds_toArray, List.set_cons_zero, List.set_cons_succ]
      refine wqv (u := x.val) (by kernel_rfl) (fun v hv => by obtain ⟨⟨y0, y1, y2⟩, _⟩ := KC.out v hv; go_simp; rfl) ?_
      simp only [Act.put, List.setIfInBounds_toArray, List.set_cons_zero, List.set_cons_succ]
      refine wqv (u := .slice (some ⟨q2, o2, none⟩) n c2) (by kernel_rfl) (fun v hv => by kernel_rfl) ?_
      simp only [Act.put, List.setIfInBounds_toArray, List.set_cons_zero, List.set_cons_succ]
      refine wqv (u := .int .i64 (j : Int)) (by kernel_rfl) (fun v hv => by kernel_rfl) ?_
      simp only [Act.put, List.setIfInBounds_toArray, List.set_cons_zero, List.set_cons_succ]
      refine wqv (u := .pointer (some ⟨q2, o2 + j * 3, none⟩)) (by kernel_rfl) (fun v hv => by go_simp) ?_
      simp only [Act.put, List.setIfInBounds_toArray, List.set_cons_zero, List.set_cons_succ]
      refine wqv (u := x.val) (by kernel_rfl) (fun v hv => by obtain ⟨_, ⟨y0, y1, y2⟩⟩ := KC.out v hv; go_simp; rfl) ?_
      simp only [Act.put, List.setIfInBounds_toArray, List.set_cons_zero, List.set_cons_succ]
      refine wqv (u := .bool false) (by kernel_rfl) (fun v hv => by unfold Mk.val; go_simp) ?_
      simp only [Act.put, List.setIfInBounds_toArray, List.set_cons_zero, List.set_cons_succ]
      refine wqnil (fun v hv => ?_)
      obtain ⟨k, rfl⟩ := hv
      go_wp2
      go_round
      case rel => exact ⟨j + 1, k, by go_num, by omega, rfl⟩
      case measure => simp [intOf]; omega
    · obtain rfl : j = n := by omega
      go_wp2
      go_ret
      exact ⟨rfl, d, rfl⟩
theorem samemarks_any (L : List Mk) (a b : Option Addr) (n c c2 : Nat) (w : World) (hL : SlY yMkA w a n c L) (hR : SlY yMkA w b n c2 L) :
    Calls Try.prog 17 #[.slice a n c, .slice b n c2] w fun e w' => e = .returned (.bool true) ∧ ∃ k, w' = w.drewN k := by
  have cs := hide (samemarks0_any L a b n c c2 w hL hR)
  clear hL hR
  go_enter Try.func17, Try.ntmps17
  go_wp2_with fail
  refine cs.out.mono ?_
  rintro e w' ⟨rfl, k, rfl⟩
  dsimp only
  go_wp2
  go_ret
  exact ⟨rfl, k, rfl⟩

set_option maxRecDepth 100000 in
set_option maxHeartbeats 400000 in
/-- Marks with another one in the room behind them. -/
theorem lentmarks_any (L : List Mk) (a : Option Addr) (n k : Nat) (w : World) (h : SlY yMkA w a n k L) (hm : (n + 1) * 24 ≤ 140737488355328) :
    Calls Try.prog 13 #[.slice a n k] w fun e w' => ∃ g c, e = .returned (.slice (some ⟨g, 0, none⟩) n c) ∧ n + 1 ≤ c ∧ w.heap.size ≤ g ∧ SlY yMkA w' (some ⟨g, 0, none⟩) n c L ∧ SlY yMkA w' (some ⟨g, 0, none⟩) (n + 1) c (L ++ [⟨-77, 0, 0⟩]) ∧ Below w.heap.size w w' := by
  have hmx := h.max
  have hcp := h.cap
  have hln := h.len
  unfold maxLen at hmx
  have H := hide h
  have HN := hide hln
  clear h hln
  go_enter Try.func13, Try.ntmps13
  go_upto_region 2 with fail
  go_wp2_with (at_builtin; go_must (refine appY kMkA _ rfl (.tmp 4) (.tmp 5) rfl w.heap.size [] _ rfl a n k rfl L H.out (OwnY.nil _ _ _) (Nat.le_refl _) (by unfold maxLen; simp; omega) (by show (0 + n) * 24 ≤ _; omega) ?_))
  intro v1 w1 o1 g1 e1
  have D1 := hide (OwnY.grown (OwnY.nil yMkA w.heap.size _) (Below.refl _ w) g1 (Nat.le_refl _))
  have O1 : Hid (OwnY yMkA w.heap.size w1 v1 L) := o1
  clear o1 g1 e1
  have z1 := D1.out.size
  have SB : Hid (SlY yMkA (w1.alloc (.cells #[.int .i64 (-77), .int .u64 0, .int .u64 0] 29)) (some ⟨w1.heap.size, 0, none⟩) 1 1 [⟨-77, 0, 0⟩]) := sl_box (Y := yMkA) w1 (⟨-77, 0, 0⟩ : Mk) 29
  have D2 := hide (D1.out.alloc z1 (.cells #[.int .i64 (-77), .int .u64 0, .int .u64 0] 29))
  have O2 := hide (O1.out.alloc (.cells #[.int .i64 (-77), .int .u64 0, .int .u64 0] 29))
  have z2 : w.heap.size ≤ (w1.alloc (.cells #[.int .i64 (-77), .int .u64 0, .int .u64 0] 29)).heap.size := D2.out.size
  try dsimp only
  go_upto_region 3 with fail
  go_wp2_with (at_builtin; go_must (refine appY kMkA _ rfl (.tmp 7) (.tmp 9) rfl w.heap.size L _ rfl (some ⟨w1.heap.size, 0, none⟩) 1 1 rfl [⟨-77, 0, 0⟩] SB.out O2.out z2 (by rw [HN.out]; unfold maxLen; omega) (by show (_ + 1) * 24 ≤ _; rw [HN.out]; omega) ?_))
  intro v3 w3 o3 g3 e3
  have D3 := hide (O2.out.grown D2.out g3 z2)
  obtain ⟨a3, c3, rfl, s3, hb3⟩ := o3.sl kMkA
  have hl3 : (L ++ [(⟨-77, 0, 0⟩ : Mk)]).length = n + 1 := by rw [List.length_append, HN.out]; rfl
  rw [hl3] at s3 ⊢
  obtain ⟨g, rfl⟩ : ∃ g, a3 = some ⟨g, 0, none⟩ := by
    cases a3 with
    | none => have := s3.nil rfl; rw [this.1] at hl3; simp at hl3
    | some z => obtain ⟨g, rfl, _⟩ := hb3 z rfl; exact ⟨g, rfl⟩
  have hgB : w.heap.size ≤ g := by obtain ⟨g', e, h1, _⟩ := hb3 _ rfl; cases e; exact h1
  have hc3 := s3.cap
  have hm3 := s3.max
  unfold maxLen at hm3
  have S3 := hide s3
  have S4 : Hid (SlY yMkA w3 (some ⟨g, 0, none⟩) n c3 L) := by
    have := s3.take n (by omega)
    rw [List.take_left' HN.out] at this
    exact this
  clear s3 o3 g3 e3 hb3 O1 O2 SB D1 D2
  go_wp2
  go_ret
  exact ⟨g, c3, rfl, by omega, hgB, S4.out, S3.out, D3.out⟩
set_option maxRecDepth 100000 in
set_option maxHeartbeats 400000 in
theorem keptmarks_any (L : List Mk) (g c : Nat) (a : Option Addr) (n k : Nat) (w : World) (h1 : SlY yMkA w (some ⟨g, 0, none⟩) n c L) (h2 : SlY yMkA w (some ⟨g, 0, none⟩) (n + 1) c (L ++ [⟨-77, 0, 0⟩])) (h3 : SlY yMkA w a n k L) :
    Calls Try.prog 24 #[.slice (some ⟨g, 0, none⟩) n c, .slice a n k] w fun e w' => e = .returned (.bool true) ∧ ∃ d, w' = w.drewN d := by
  have hc := h2.cap
  have hmx := h2.max
  unfold maxLen at hmx
  have hln := h1.len
  have cs := hide (samemarks_any L _ a n c k w h1 h3)
  have hx : (L ++ [(⟨-77, 0, 0⟩ : Mk)])[n]? = some ⟨-77, 0, 0⟩ := by rw [List.getElem?_append_right (by omega), hln, Nat.sub_self]; rfl
  have KS : Hid (∀ d, (w.drewN d).cell? ⟨g, 0 + n * 3, none⟩ = some (.int .i64 (-77)) ∧ (w.drewN d).cell? ⟨g, 0 + n * 3 + 1, none⟩ = some (.int .u64 0) ∧ (w.drewN d).cell? ⟨g, 0 + n * 3 + 2, none⟩ = some (.int .u64 0)) := fun d => by
    obtain ⟨q', o', e, _, y0, y1, y2⟩ := (h2.drewN d).MkA hx
    cases e
    exact ⟨y0, y1, y2⟩
  have hw : IntKind.i64.wrap ((n : Int) + 1) = (n : Int) + 1 := by rw [IntKind.wrap_i64]; omega
  clear h1 h2 h3 hln hx
  go_enter Try.func24, Try.ntmps24
  go_wp2_with fail
  refine cs.out.mono ?_
  rintro e w1 ⟨rfl, d, rfl⟩
  dsimp only
  obtain ⟨y0, y1, y2⟩ := KS.out d
  simp only [Nat.zero_add] at y0 y1 y2
  clear cs
  go_wp2
  go_ret
  exact ⟨rfl, d, rfl⟩

end Go.Proofs.Ytnhonkgondljjaa
