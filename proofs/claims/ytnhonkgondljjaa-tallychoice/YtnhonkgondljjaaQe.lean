import Derived.Test.YtnhonkgondljjaaQc
import Derived.Test.YtnhonkgondljjaaSbs
import Derived.Test.YtnhonkgondljjaaSq
namespace Go.Proofs.Ytnhonkgondljjaa
open Go.RowKit Go.Maps
open Classical
set_option linter.unusedVariables false
set_option linter.unusedSimpArgs false

/-- within: k brought into 0 to m. -/
theorem within9_any (k m : Int) (w : World) (h0 : 0 ≤ m) (h1 : m ≤ 4611686018427387904) : Calls Try.prog 31 #[.int .i64 k, .int .i64 m] w fun e w' => e = .returned (.int .i64 (k % (m + 1))) ∧ w' = w := by
  have hn : 0 < m + 1 := by omega
  have hne : m + 1 ≠ 0 := by omega
  have hb : (m + 1 == 0) = false := by simp; omega
  have g1 := Int.lt_tmod_of_pos k hn
  have g2 := Int.tmod_lt_of_pos k hn
  have hw0 : IntKind.i64.wrap (m + 1) = m + 1 := by rw [IntKind.wrap_i64]; omega
  have hw1 : IntKind.i64.wrap (Int.tmod k (m + 1)) = Int.tmod k (m + 1) := by rw [IntKind.wrap_i64]; omega
  have he : Hid (Int.tmod k (m + 1) % (m + 1) = k % (m + 1)) := by show _ = _; rw [Int.tmod_def, Int.sub_mul_emod_self_left]
  by_cases ht : Int.tmod k (m + 1) < 0
  · have hw2 : IntKind.i64.wrap (Int.tmod k (m + 1) + m) = Int.tmod k (m + 1) + m := by rw [IntKind.wrap_i64]; omega
    have hw3 : IntKind.i64.wrap (Int.tmod k (m + 1) + m + 1) = Int.tmod k (m + 1) + m + 1 := by rw [IntKind.wrap_i64]; omega
    have e2 : Hid (k % (m + 1) = Int.tmod k (m + 1) + m + 1) := by
      show _ = _
      rw [← he.out, ← Int.add_emod_right _ (m + 1), Int.emod_eq_of_lt (by omega) (by omega)]
      omega
    generalize k % (m + 1) = r at *
    go_enter Try.func31, Try.ntmps31
    go_wp2
    go_ret
    exact ⟨by rw [e2.out]; rfl, rfl⟩
  · have e2 : Hid (k % (m + 1) = Int.tmod k (m + 1)) := by
      show _ = _
      rw [← he.out, Int.emod_eq_of_lt (by omega) (by omega)]
    generalize k % (m + 1) = r at *
    go_enter Try.func31, Try.ntmps31
    go_wp2
    go_ret
    exact ⟨by rw [e2.out]; rfl, rfl⟩
/-- Is x of an earlier view than y, or of the same and no longer? -/
def Bl.le (x y : Bl) : Prop := x.v < y.v ∨ x.v = y.v ∧ x.s.D.length ≤ y.s.D.length
theorem Bl.le.trans {x y z : Bl} (h1 : x.le y) (h2 : y.le z) : x.le z := by
  unfold Bl.le at *
  omega
theorem Bl.le.refl (x : Bl) : x.le x := .inr ⟨rfl, Nat.le_refl _⟩
theorem cmpI_lt {a b : Int} (h : a < b) : cmpI a b = -1 := by unfold cmpI; rw [if_pos h]
theorem cmpI_gt {a b : Int} (h : b < a) : cmpI a b = 1 := by unfold cmpI; rw [if_neg (by omega), if_pos h]
theorem cmpI_self (a : Int) : cmpI a a = 0 := by unfold cmpI; rw [if_neg (by omega), if_neg (by omega)]
theorem cho_less {x y : Bl} (h : y.v < x.v ∨ y.v = x.v ∧ y.s.D.length < x.s.D.length) : Bl.cho x y = false := by
  unfold Bl.cho Bl.cb
  rcases h with h | ⟨e, h⟩
  · simp [orI, cmpI_lt h]
  · have h2 : (y.s.D.length : Int) < (x.s.D.length : Int) := by omega
    simp [orI, e, cmpI_self, cmpI_lt h2]
theorem cho_more {x y : Bl} (h : x.v < y.v ∨ x.v = y.v ∧ x.s.D.length < y.s.D.length) : Bl.cho x y = true := by
  unfold Bl.cho Bl.cb
  rcases h with h | ⟨e, h⟩
  · simp [orI, cmpI_gt h]
  · have h2 : (x.s.D.length : Int) < (y.s.D.length : Int) := by omega
    simp [orI, e, cmpI_self, cmpI_gt h2]
theorem cho_le (x y : Bl) : x.le (if Bl.cho x y = true then y else x) ∧ y.le (if Bl.cho x y = true then y else x) := by
  by_cases h : Bl.cho x y = true
  · rw [if_pos h]
    refine ⟨?_, Bl.le.refl y⟩
    by_cases h2 : y.v < x.v ∨ y.v = x.v ∧ y.s.D.length < x.s.D.length
    · rw [cho_less h2] at h; cases h
    · unfold Bl.le; omega
  · rw [if_neg h]
    refine ⟨Bl.le.refl x, ?_⟩
    by_cases h2 : x.v < y.v ∨ x.v = y.v ∧ x.s.D.length < y.s.D.length
    · exact absurd (cho_more h2) h
    · unfold Bl.le; omega
theorem bestB_le : ∀ (L : List Bl) (x : Bl), x.le (bestB x L) ∧ ∀ y ∈ L, y.le (bestB x L)
  | [], x => ⟨Bl.le.refl x, fun y hy => by cases hy⟩
  | y :: r, x => by
    have ih := bestB_le r (if Bl.cho x y = true then y else x)
    have hc := cho_le x y
    rw [bestB]
    refine ⟨hc.1.trans ih.1, fun z hz => ?_⟩
    rcases List.mem_cons.1 hz with rfl | hz
    · exact hc.2.trans ih.1
    · exact ih.2 z hz
theorem bestB_mem : ∀ (L : List Bl) (x : Bl), bestB x L ∈ x :: L
  | [], x => List.mem_cons_self ..
  | y :: r, x => by
    have ih := bestB_mem r (if Bl.cho x y = true then y else x)
    rw [bestB]
    rcases List.mem_cons.1 ih with h | h
    · rw [h]
      split
      · exact List.mem_cons_of_mem _ (List.mem_cons_self ..)
      · exact List.mem_cons_self ..
    · exact List.mem_cons_of_mem _ (List.mem_cons_of_mem _ h)
theorem comB_max (a : Int) : ∀ (L : List Bl) (b : Int), comB (max a b) L = max a (comB b L)
  | [], b => rfl
  | y :: r, b => by
    rw [comB, comB, ← comB_max a r]
    congr 1
    split <;> split <;> omega
/-- The law's greatest number, from 0 on, as far as the log goes. -/
theorem com_law (o : Bl) (L : List Bl) (n : Nat) : min (comB 0 (o :: L)) (n : Int) = max 0 (min (comB o.c L) (n : Int)) := by
  rw [comB, show (if (0 : Int) < o.c then o.c else 0) = max 0 o.c by split <;> omega, comB_max]
  omega
/-- What the chosen one has of the best. -/
structure Chosen (x y : Bl) (all : List Bl) : Prop where
  n : y.n = x.n
  h : y.h = x.h
  l : y.l = x.l
  v : y.v = x.v
  D : y.s.D = x.s.D
  c : y.c = min (comB 0 all) (x.s.D.length : Int)
theorem chosen {o : Bl} {L : List Bl} {B : Nat} {w : World} {y : Bl} (h : Bl.Told B w (chs o L) y) : Chosen (bestB o L) y (o :: L) := by
  obtain ⟨h1, h2, h3, h4, h5, h6⟩ := h.D
  exact ⟨h2, h3, h4, h5, h1, by rw [h6, com_law]; rfl⟩
theorem eql_draw8 (h l h' l' : Int) (w : World) : (binOp .eql 27 (.agg #[.int .u64 h, .int .u64 l]) (.agg #[.int .u64 h', .int .u64 l'])).run Try.prog w = .ok (.bool (decide (h = h' ∧ l = l'))) w := by
  go_simp
  by_cases e1 : h = h' <;> by_cases e2 : l = l' <;> simp [e1, e2]

set_option maxRecDepth 100000 in
set_option maxHeartbeats 4000000 in
theorem choice_walk (f : Int) (x0 : Bl) (L : List Bl) (a : Option Addr) (n c : Nat) (w : World) (h : SlY yBlA w a n c L) (hlogs : ∀ x ∈ L, x.In w) (h0 : x0.In w) (hm : n * 64 ≤ 140737488351232) :
    Calls Try.prog 9 #[.int .i64 f, .agg #[.int .i64 x0.n, .int .u64 x0.h, .int .u64 x0.l, .int .i64 x0.v, .int .i64 x0.c, .slice x0.s.a x0.s.D.length x0.s.c], .slice a n c] w fun e w' => e = .returned (.bool true) ∧ Below w.heap.size w w' := by
  have hmx := h.max
  have hcp := h.cap
  have hln := h.len
  unfold maxLen at hmx
  have H := hide h
  have HN := hide hln
  have HX := hide hlogs
  have H0 := hide h0
  clear h hln hlogs h0
  have KH : Hid (∀ v, Below (w.heap.size + 1) (w.alloc (.cells #[.int .i64 x0.n, .int .u64 x0.h, .int .u64 x0.l, .int .i64 x0.v, .int .i64 x0.c, .slice x0.s.a x0.s.D.length x0.s.c] 63)) v → (v.cell? ⟨w.heap.size, 0, none⟩ = some (.int .i64 x0.n) ∧ v.cell? ⟨w.heap.size, 1, none⟩ = some (.int .u64 x0.h) ∧ v.cell? ⟨w.heap.size, 2, none⟩ = some (.int .u64 x0.l) ∧ v.cell? ⟨w.heap.size, 3, none⟩ = some (.int .i64 x0.v) ∧ v.cell? ⟨w.heap.size, 4, none⟩ = some (.int .i64 x0.c) ∧ v.cell? ⟨w.heap.size, 5, none⟩ = some (.slice x0.s.a x0.s.D.length x0.s.c))) := fun v hv =>
    ⟨(hv.cell (p := ⟨w.heap.size, 0, none⟩) (by simp)).trans (by simp), (hv.cell (p := ⟨w.heap.size, 1, none⟩) (by simp)).trans (by simp), (hv.cell (p := ⟨w.heap.size, 2, none⟩) (by simp)).trans (by simp), (hv.cell (p := ⟨w.heap.size, 3, none⟩) (by simp)).trans (by simp), (hv.cell (p := ⟨w.heap.size, 4, none⟩) (by simp)).trans (by simp), (hv.cell (p := ⟨w.heap.size, 5, none⟩) (by simp)).trans (by simp)⟩
  have hwz : Hid ((w.alloc (.cells #[.int .i64 x0.n, .int .u64 x0.h, .int .u64 x0.l, .int .i64 x0.v, .int .i64 x0.c, .slice x0.s.a x0.s.D.length x0.s.c] 63)).heap.size = w.heap.size + 1) := by show _ = _; simp
  have B0 : Hid (Below w.heap.size w (w.alloc (.cells #[.int .i64 x0.n, .int .u64 x0.h, .int .u64 x0.l, .int .i64 x0.v, .int .i64 x0.c, .slice x0.s.a x0.s.D.length x0.s.c] 63))) := (Below.refl _ w).alloc (Nat.le_refl _) _
  go_enter Try.func9, Try.ntmps9
  go_wp2_with fail
  refine (works8_any _).mono ?_
  rintro e w1 ⟨rfl, b1⟩
  rw [hwz.out] at b1
  have D1 := hide b1
  clear b1
  generalize hw0 : w.alloc (.cells #[.int .i64 x0.n, .int .u64 x0.h, .int .u64 x0.l, .int .i64 x0.v, .int .i64 x0.c, .slice x0.s.a x0.s.D.length x0.s.c] 63) = w0 at *
  dsimp only
  go_wp2_with fail
  refine (show Calls Try.prog 31 #[.int .i64 f, .int .i64 3] w1 fun e w' => e = .returned (.int .i64 (f % 4)) ∧ w' = w1 from within9_any f 3 w1 (by omega) (by omega)).mono ?_
  rintro e w1' ⟨rfl, rfl⟩
  have hF0 := Int.emod_nonneg f (b := 4) (by omega)
  have hF1 := Int.emod_lt_of_pos f (b := 4) (by omega)
  generalize f % 4 = F at *
  obtain ⟨k0, k1, k2, k3, k4, k5⟩ := KH.out w1' D1.out
  have z1 : w.heap.size + 1 ≤ w1'.heap.size := by have := D1.out.size; rwa [hwz.out] at this
  have E1 := hide (B0.out.trans (D1.out.mono (by omega)))
  have cc := hide (choose_any F x0 L a n c w1' (H.out.later E1.out) (fun x hx => (HX.out x hx).later E1.out) (H0.out.later E1.out))
  unfold Bl.val at cc
  dsimp only
  go_wp2_with fail
  refine cc.out.mono ?_
  rintro e w2 ⟨hout, b2⟩
  have z2 := b2.size
  have D2 := hide (D1.out.trans (b2.mono z1))
  clear b2 cc k0 k1 k2 k3 k4 k5
  by_cases hnf : (n : Int) < F
  · rw [if_pos hnf] at hout
    have hout : e = .returned (.tuple #[.agg #[.int .i64 0, .int .u64 0, .int .u64 0, .int .i64 0, .int .i64 0, .slice none 0 0], .int .i64 81]) := hout
    subst hout
    have z2' : w.heap.size + 1 ≤ w2.heap.size := by have := D2.out.size; rwa [hwz.out] at this
    have b3 : Below w2.heap.size w2 (((w2.alloc (.cells #[.int .i64 0, .int .u64 0, .int .u64 0, .int .i64 0, .int .i64 0, .slice none 0 0] 63)).alloc (.cells #[.int .i64 0, .int .u64 0, .int .u64 0, .int .i64 0, .int .i64 0, .slice none 0 0] 63)).alloc (.cells #[.int .i64 0, .int .u64 0, .int .u64 0, .int .i64 0, .int .i64 0, .slice none 0 0] 63)) := (((Below.refl _ w2).alloc (Nat.le_refl _) _).alloc (by simp) _).alloc (by simp; omega) _
    have B3 := hide b3
    have s1 : SlY yBlA (((w2.alloc (.cells #[.int .i64 0, .int .u64 0, .int .u64 0, .int .i64 0, .int .i64 0, .slice none 0 0] 63)).alloc (.cells #[.int .i64 0, .int .u64 0, .int .u64 0, .int .i64 0, .int .i64 0, .slice none 0 0] 63)).alloc (.cells #[.int .i64 0, .int .u64 0, .int .u64 0, .int .i64 0, .int .i64 0, .slice none 0 0] 63)) (some ⟨w2.heap.size + 1, 0, none⟩) 1 1 [⟨0, 0, 0, 0, 0, ⟨none, 0, []⟩⟩] := by
      have := (sl_box (Y := yBlA) (w2.alloc (.cells #[.int .i64 0, .int .u64 0, .int .u64 0, .int .i64 0, .int .i64 0, .slice none 0 0] 63)) (⟨0, 0, 0, 0, 0, ⟨none, 0, []⟩⟩ : Bl) 63).later ((Below.refl _ _).alloc (Nat.le_refl _) (.cells #[.int .i64 0, .int .u64 0, .int .u64 0, .int .i64 0, .int .i64 0, .slice none 0 0] 63))
      rw [show (w2.alloc (.cells #[.int .i64 0, .int .u64 0, .int .u64 0, .int .i64 0, .int .i64 0, .slice none 0 0] 63)).heap.size = w2.heap.size + 1 from by simp] at this
      exact this
    have s2 : SlY yBlA (((w2.alloc (.cells #[.int .i64 0, .int .u64 0, .int .u64 0, .int .i64 0, .int .i64 0, .slice none 0 0] 63)).alloc (.cells #[.int .i64 0, .int .u64 0, .int .u64 0, .int .i64 0, .int .i64 0, .slice none 0 0] 63)).alloc (.cells #[.int .i64 0, .int .u64 0, .int .u64 0, .int .i64 0, .int .i64 0, .slice none 0 0] 63)) (some ⟨w2.heap.size + 1 + 1, 0, none⟩) 1 1 [⟨0, 0, 0, 0, 0, ⟨none, 0, []⟩⟩] := by
      have := (sl_box (Y := yBlA) ((w2.alloc (.cells #[.int .i64 0, .int .u64 0, .int .u64 0, .int .i64 0, .int .i64 0, .slice none 0 0] 63)).alloc (.cells #[.int .i64 0, .int .u64 0, .int .u64 0, .int .i64 0, .int .i64 0, .slice none 0 0] 63)) (⟨0, 0, 0, 0, 0, ⟨none, 0, []⟩⟩ : Bl) 63)
      rw [show ((w2.alloc (.cells #[.int .i64 0, .int .u64 0, .int .u64 0, .int .i64 0, .int .i64 0, .slice none 0 0] 63)).alloc (.cells #[.int .i64 0, .int .u64 0, .int .u64 0, .int .i64 0, .int .i64 0, .slice none 0 0] 63)).heap.size = w2.heap.size + 1 + 1 from by simp] at this
      exact this
    have hz : ∀ x ∈ [(⟨0, 0, 0, 0, 0, ⟨none, 0, []⟩⟩ : Bl)], ∀ W, x.In W := fun x hx W => by
      rw [List.mem_singleton] at hx
      subst hx
      exact ⟨SlY.none_ _ _, by decide⟩
    have cs := hide (Bl.same_any _ _ _ _ 1 1 1 _ s1 s2 (fun i x y h1 h2 => by rw [h1] at h2; cases h2; exact ⟨rfl, rfl, rfl, rfl, rfl, rfl⟩) (fun x hx => hz x hx _) (fun x hx => hz x hx _))
    clear s1 s2 hz b3
    dsimp only
    go_wp2_with fail
    refine cs.out.mono ?_
    rintro e w4 ⟨rfl, k, rfl⟩
    dsimp only
    go_wp2
    go_ret
    exact ⟨rfl, B0.out.trans ((D2.out.trans ((belNN B3.out k).mono z2')).mono (by omega))⟩
  · rw [if_neg hnf] at hout
    obtain ⟨y, he, hT⟩ := hout
    have he : e = .returned (.tuple #[.agg #[.int .i64 y.n, .int .u64 y.h, .int .u64 y.l, .int .i64 y.v, .int .i64 y.c, .slice y.s.a y.s.D.length y.s.c], .int .i64 0]) := he
    subst he
    have HT := hide hT
    have HCh := hide (chosen hT)
    clear hT
    have z2' : w.heap.size + 1 ≤ w2.heap.size := by have := D2.out.size; rwa [hwz.out] at this
    have hbx : Bl.Bx (w2.alloc (.cells #[.int .i64 y.n, .int .u64 y.h, .int .u64 y.l, .int .i64 y.v, .int .i64 y.c, .slice y.s.a y.s.D.length y.s.c] 63)) w2.heap.size y := Bl.Bx.new _ _ _
    have HBX := hide hbx
    have D3 := hide (D2.out.alloc z2' (.cells #[.int .i64 y.n, .int .u64 y.h, .int .u64 y.l, .int .i64 y.v, .int .i64 y.c, .slice y.s.a y.s.D.length y.s.c] 63))
    have z3 : (w2.alloc (.cells #[.int .i64 y.n, .int .u64 y.h, .int .u64 y.l, .int .i64 y.v, .int .i64 y.c, .slice y.s.a y.s.D.length y.s.c] 63)).heap.size = w2.heap.size + 1 := by simp
    have Z3 := hide z3
    clear hbx z3
    generalize hw3 : w2.alloc (.cells #[.int .i64 y.n, .int .u64 y.h, .int .u64 y.l, .int .i64 y.v, .int .i64 y.c, .slice y.s.a y.s.D.length y.s.c] 63) = w3 at *
    obtain ⟨k0, k1, k2, k3, k4, k5⟩ := KH.out w3 D3.out
    dsimp only
    go_upto_region 8 with fail
    try rw [hw3]
    have SB3 : Hid (SlY yBlA (w3.alloc (.cells #[.int .i64 x0.n, .int .u64 x0.h, .int .u64 x0.l, .int .i64 x0.v, .int .i64 x0.c, .slice x0.s.a x0.s.D.length x0.s.c] 63)) (some ⟨w3.heap.size, 0, none⟩) 1 1 [x0]) := sl_box (Y := yBlA) w3 x0 63
    have b4 : Below w3.heap.size w3 (w3.alloc (.cells #[.int .i64 x0.n, .int .u64 x0.h, .int .u64 x0.l, .int .i64 x0.v, .int .i64 x0.c, .slice x0.s.a x0.s.D.length x0.s.c] 63)) := (Below.refl _ w3).alloc (Nat.le_refl _) _
    have B4 := hide b4
    clear b4
    go_wp2_with (at_builtin; go_must (refine appY kBlA _ rfl (.tmp 38) (.tmp 40) rfl w3.heap.size [] _ rfl (some ⟨w3.heap.size, 0, none⟩) 1 1 rfl [x0] SB3.out (OwnY.nil _ _ _) (by simp) (by unfold maxLen; simp) (by show (0 + 1) * 64 ≤ _; omega) ?_))
    intro v5 w5 o5 g5 e5
    have D5 := hide (OwnY.grown (OwnY.nil yBlA w3.heap.size _) B4.out g5 (by simp))
    have O5 : Hid (OwnY yBlA w3.heap.size w5 v5 [x0]) := o5
    have W3 : Hid (Below w.heap.size w w3) := B0.out.trans (D3.out.mono (by omega))
    have hz3 : w.heap.size + 1 ≤ w3.heap.size := by have := D3.out.size; rwa [hwz.out] at this
    have z5 := D5.out.size
    have H5 := hide (H.out.later (W3.out.trans (D5.out.mono (by omega))))
    clear o5 g5 e5 SB3
    try dsimp only
    go_wp2_with (at_builtin; go_must (refine appY kBlA _ rfl (.tmp 42) (.tmp 43) rfl w3.heap.size [x0] _ rfl a n c rfl L H5.out O5.out z5 (by unfold maxLen; simp; omega) (by show (1 + n) * 64 ≤ _; omega) ?_))
    intro v6 w6 o6 g6 e6
    have D6 := hide (O5.out.grown D5.out g6 z5)
    have z6 := D6.out.size
    obtain ⟨a6, c6, rfl, s6, _⟩ := o6.sl kBlA
    have hal : Hid ((x0 :: L).length = n + 1) := by show _ = _; rw [List.length_cons, HN.out]
    have hAL : Hid (x0 :: L = x0 :: L) := rfl
    have hBEm : Hid (bestB x0 L ∈ x0 :: L) := bestB_mem L x0
    have hBEle : Hid (∀ x ∈ x0 :: L, x.le (bestB x0 L)) := fun x hx => by
      rcases List.mem_cons.1 (show x ∈ x0 :: L from hx) with rfl | hx
      · exact (bestB_le L x).1
      · exact (bestB_le L x0).2 x hx
    have hCH : Hid (Chosen (bestB x0 L) y (x0 :: L)) := HCh.out
    have hIn : Hid (∀ x ∈ x0 :: L, x.In w) := fun x hx => by
      rcases List.mem_cons.1 (show x ∈ x0 :: L from hx) with rfl | hx
      · exact H0.out
      · exact HX.out x hx
    have W6 := hide (W3.out.trans (D6.out.mono (by omega)))
    have Y6 := hide ((HT.out.In.later (by rw [← hw3]; exact (Below.refl _ w2).alloc (Nat.le_refl _) _)).later D6.out)
    have X6 := hide (HBX.out.bel D6.out (by rw [Z3.out]; omega))
    have hx6 : w2.heap.size < w6.heap.size := X6.out.lt
    rw [hal.out] at s6 ⊢
    have S6 := hide s6
    have c6m := s6.max
    have c6c := s6.cap
    unfold maxLen at c6m
    clear s6 o6 g6 e6 HCh hAL H5 O5 HBX B4 H HX H0 HT
    generalize x0 :: L = AL at *
    generalize bestB x0 L = BE at *
    obtain ⟨K0, hK0, hKe⟩ := List.mem_iff_getElem.1 hBEm.out
    rw [hal.out] at hK0
    have HKE : Hid (AL[K0]? = some BE) := by show _ = _; rw [List.getElem?_eq_getElem (by rw [hal.out]; exact hK0), hKe]
    clear hKe hBEm
    try dsimp only
    go_wp2_with fail
    go_loopw [12, 10, 11] (fun i m s wr => ∃ (j : Nat) (M : Int) (b : Bool), i = .int .i64 (j : Int) ∧ j ≤ n + 1 ∧ m = .int .i64 M ∧ s = .bool b ∧ Hid (comB 0 AL = comB M (AL.drop j)) ∧ Hid (K0 < j → b = true) ∧ Hid (Below w6.heap.size w6 wr)) (fun i _ _ _ => n + 1 - (intOf i).toNat)
    case atStart => exact ⟨0, 0, false, rfl, Nat.zero_le _, rfl, rfl, rfl, fun h => absurd h (Nat.not_lt_zero _), Below.refl _ _⟩
    case round =>
      obtain ⟨j, M, b, rfl, hj, rfl, rfl, hM, hb, hbl⟩ := hrel
      have zr := hbl.out.size
      by_cases hlt : j < n + 1
      · have hjl : j < AL.length := by rw [hal.out]; exact hlt
        have hgj : AL[j]? = some AL[j] := List.getElem?_eq_getElem hjl
        obtain ⟨q, o, ea, hq, y0, y1, y2, y3, y4, y5⟩ := (S6.out.later hbl.out).BlA hgj
        cases ea
        have hM1 : Hid (comB 0 AL = comB (if M < AL[j].c then AL[j].c else M) (AL.drop (j + 1))) := by show _ = _; rw [hM.out, comB_drop hjl]
        have hle := hBEle.out _ (List.getElem_mem hjl)
        have hxin := hIn.out _ (List.getElem_mem hjl)
        have hKj : Hid (K0 = j → AL[j].n = y.n ∧ AL[j].h = y.h ∧ AL[j].l = y.l ∧ AL[j].v = y.v ∧ AL[j].s.D = y.s.D) := fun e => by
          have h1 := HKE.out
          rw [e, hgj] at h1
          injection h1 with h1
          have hc := hCH.out
          rw [h1]
          exact ⟨hc.n.symm, hc.h.symm, hc.l.symm, hc.v.symm, hc.D.symm⟩
        have hl2 : AL[j].v < y.v ∨ AL[j].v = y.v ∧ AL[j].s.D.length ≤ y.s.D.length := by
          rw [hCH.out.v, hCH.out.D]
          exact hle
        clear hgj hM hle
        generalize AL[j] = x at *
        have ALX : Hid (Below w6.heap.size w6 (wr.alloc (.cells #[.int .i64 x.n, .int .u64 x.h, .int .u64 x.l, .int .i64 x.v, .int .i64 x.c, .slice x.s.a x.s.D.length x.s.c] 63))) := hbl.out.alloc zr _
        have CE : Hid (Calls Try.prog 40 #[.slice x.s.a x.s.D.length x.s.c, .slice y.s.a y.s.D.length y.s.c] (wr.alloc (.cells #[.int .i64 x.n, .int .u64 x.h, .int .u64 x.l, .int .i64 x.v, .int .i64 x.c, .slice x.s.a x.s.D.length x.s.c] 63)) fun e w' => e = .returned (.bool (decide (x.s.D = y.s.D))) ∧ ∃ k, w' = (wr.alloc (.cells #[.int .i64 x.n, .int .u64 x.h, .int .u64 x.l, .int .i64 x.v, .int .i64 x.c, .slice x.s.a x.s.D.length x.s.c] 63)).drewN k) :=
          sameentsB x.s.D y.s.D x.s.a y.s.a _ _ x.s.c y.s.c _ (hxin.later (W6.out.trans (ALX.out.mono (by have := W6.out.size; omega)))).1 (Y6.out.later ALX.out).1
        obtain ⟨p0, p1, p2, p3, p4, p5, _⟩ := X6.out.bel ALX.out hx6
        have hne : w2.heap.size ≠ wr.heap.size := by omega
        have hne' : wr.heap.size ≠ w2.heap.size := by omega
        clear hxin
        rcases hl2 with hv | ⟨hv, hl⟩
        · have hv1 : ¬ (y.v < x.v) := by omega
          have hv2 : (x.v == y.v) = false := by simp; omega
          have hv3 : ¬ (x.v = y.v) := by omega
          cases b with
          | true =>
            go_wp2
            go_round
            case rel => exact ⟨j + 1, if M < x.c then x.c else M, true, by go_num, by omega, rfl, rfl, hM1, fun _ => rfl, ALX.out⟩
            case measure => first | (simp [intOf]; done) | (simp [intOf]; omega)
          | false =>
            have hnew : Hid (¬ (x.n = y.n ∧ x.h = y.h ∧ x.l = y.l ∧ x.v = y.v ∧ x.s.D = y.s.D) → K0 < j + 1 → False) := fun hn hk => by
              by_cases e : K0 = j
              · exact hn (hKj.out e)
              · exact absurd (hb.out (by omega)) (by simp)
            by_cases hn : x.n = y.n
            · have hn1 : (x.n == y.n) = true := by simp [hn]
              clear hn
              by_cases hd : x.h = y.h ∧ x.l = y.l
              · have qd : ∀ W, (binOp .eql 27 (.agg #[.int .u64 x.h, .int .u64 x.l]) (.agg #[.int .u64 y.h, .int .u64 y.l])).run Try.prog W = .ok (.bool true) W := fun W => by rw [eql_draw8]; simp [hd]
                clear hd
                go_wp2
                go_round
                case rel => exact ⟨j + 1, if M < x.c then x.c else M, false, by go_num, by omega, rfl, rfl, hM1, fun hk => (hnew.out (fun hc => hv3 hc.2.2.2.1) hk).elim, ALX.out⟩
                case measure => first | (simp [intOf]; done) | (simp [intOf]; omega)
              · have qd : ∀ W, (binOp .eql 27 (.agg #[.int .u64 x.h, .int .u64 x.l]) (.agg #[.int .u64 y.h, .int .u64 y.l])).run Try.prog W = .ok (.bool false) W := fun W => by rw [eql_draw8]; simp only [decide_eq_false hd]
                have HD := hide hd
                clear hd
                go_wp2
                go_round
                case rel => exact ⟨j + 1, if M < x.c then x.c else M, false, by go_num, by omega, rfl, rfl, hM1, fun hk => (hnew.out (fun hc => HD.out ⟨hc.2.1, hc.2.2.1⟩) hk).elim, ALX.out⟩
                case measure => first | (simp [intOf]; done) | (simp [intOf]; omega)
            · have hn1 : (x.n == y.n) = false := by simp [hn]
              go_wp2
              go_round
              case rel => exact ⟨j + 1, if M < x.c then x.c else M, false, by go_num, by omega, rfl, rfl, hM1, fun hk => (hnew.out (fun hc => hn hc.1) hk).elim, ALX.out⟩
              case measure => first | (simp [intOf]; done) | (simp [intOf]; omega)
        · have hv1 : ¬ (y.v < x.v) := by omega
          have hv2 : (x.v == y.v) = true := by simp [hv]
          have hl1 : ¬ (y.s.D.length < x.s.D.length) := by omega
          clear hv
          cases b with
          | true =>
            go_wp2
            go_round
            case rel => exact ⟨j + 1, if M < x.c then x.c else M, true, by go_num, by omega, rfl, rfl, hM1, fun _ => rfl, ALX.out⟩
            case measure => first | (simp [intOf]; done) | (simp [intOf]; omega)
          | false =>
            have hnew : Hid (¬ (x.n = y.n ∧ x.h = y.h ∧ x.l = y.l ∧ x.v = y.v ∧ x.s.D = y.s.D) → K0 < j + 1 → False) := fun hn hk => by
              by_cases e : K0 = j
              · exact hn (hKj.out e)
              · exact absurd (hb.out (by omega)) (by simp)
            by_cases hn : x.n = y.n
            · have hn1 : (x.n == y.n) = true := by simp [hn]
              clear hn
              by_cases hd : x.h = y.h ∧ x.l = y.l
              · have qd : ∀ W, (binOp .eql 27 (.agg #[.int .u64 x.h, .int .u64 x.l]) (.agg #[.int .u64 y.h, .int .u64 y.l])).run Try.prog W = .ok (.bool true) W := fun W => by rw [eql_draw8]; simp [hd]
                clear hd
                by_cases hMc : M < x.c
                · have hM2 : Hid (comB 0 AL = comB x.c (AL.drop (j + 1))) := by show _ = _; rw [hM1.out, if_pos hMc]
                  clear hM1
                  go_wp2_with fail
                  refine CE.out.mono ?_
                  rintro e w7 ⟨rfl, k, rfl⟩
                  dsimp only
                  go_wp2
                  go_round
                  case rel => exact ⟨j + 1, x.c, decide (x.s.D = y.s.D), by go_num, by omega, rfl, rfl, hM2, fun hk => by
                    by_cases hD : x.s.D = y.s.D
                    · simp [hD]
                    · exact (hnew.out (fun hc => hD hc.2.2.2.2) hk).elim, belNN ALX.out k⟩
                  case measure => first | (simp [intOf]; done) | (simp [intOf]; omega)
                · have hM2 : Hid (comB 0 AL = comB M (AL.drop (j + 1))) := by show _ = _; rw [hM1.out, if_neg hMc]
                  clear hM1
                  go_wp2_with fail
                  refine CE.out.mono ?_
                  rintro e w7 ⟨rfl, k, rfl⟩
                  dsimp only
                  go_wp2
                  go_round
                  case rel => exact ⟨j + 1, M, decide (x.s.D = y.s.D), by go_num, by omega, rfl, rfl, hM2, fun hk => by
                    by_cases hD : x.s.D = y.s.D
                    · simp [hD]
                    · exact (hnew.out (fun hc => hD hc.2.2.2.2) hk).elim, belNN ALX.out k⟩
                  case measure => first | (simp [intOf]; done) | (simp [intOf]; omega)
              · have qd : ∀ W, (binOp .eql 27 (.agg #[.int .u64 x.h, .int .u64 x.l]) (.agg #[.int .u64 y.h, .int .u64 y.l])).run Try.prog W = .ok (.bool false) W := fun W => by rw [eql_draw8]; simp only [decide_eq_false hd]
                have HD := hide hd
                clear hd
                go_wp2
                go_round
                case rel => exact ⟨j + 1, if M < x.c then x.c else M, false, by go_num, by omega, rfl, rfl, hM1, fun hk => (hnew.out (fun hc => HD.out ⟨hc.2.1, hc.2.2.1⟩) hk).elim, ALX.out⟩
                case measure => first | (simp [intOf]; done) | (simp [intOf]; omega)
            · have hn1 : (x.n == y.n) = false := by simp [hn]
              go_wp2
              go_round
              case rel => exact ⟨j + 1, if M < x.c then x.c else M, false, by go_num, by omega, rfl, rfl, hM1, fun hk => (hnew.out (fun hc => hn hc.1) hk).elim, ALX.out⟩
              case measure => first | (simp [intOf]; done) | (simp [intOf]; omega)
      · obtain rfl : j = n + 1 := by omega
        obtain rfl : b = true := hb.out hK0
        have hMM : Hid (y.c = min M (y.s.D.length : Int)) := by
          show _ = _
          rw [hCH.out.c, hM.out, List.drop_of_length_le (by rw [hal.out]; exact Nat.le_refl _), comB, ← hCH.out.D]
        obtain ⟨p0, p1, p2, p3, p4, p5, _⟩ := X6.out.bel hbl.out hx6
        have WF := hide (W6.out.trans (hbl.out.mono (by have := W6.out.size; omega)))
        by_cases hc : (y.s.D.length : Int) < M
        · have e1 : y.c = (y.s.D.length : Int) := by rw [hMM.out]; omega
          rw [e1] at p4
          clear hMM e1
          go_wp2
          go_ret
          exact ⟨rfl, WF.out⟩
        · have e1 : y.c = M := by rw [hMM.out]; omega
          rw [e1] at p4
          clear hMM e1
          go_wp2
          go_ret
          exact ⟨rfl, WF.out⟩

end Go.Proofs.Ytnhonkgondljjaa
