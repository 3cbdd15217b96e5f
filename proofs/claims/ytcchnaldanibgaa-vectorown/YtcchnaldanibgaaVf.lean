import Derived.Test.YtcchnaldanibgaaVe
namespace Go.Proofs.Ytcchnaldanibgaa
open Go.RowKit
set_option linter.unusedVariables false
set_option linter.unusedSimpArgs false

theorem not_same {A B : List (Int × Int)} {k : Nat} (h : at2 A k ≠ at2 B k) : A ≠ B := fun e => h (by rw [e])
set_option maxRecDepth 100000 in
set_option maxHeartbeats 400000 in
theorem samevec_any (A B : List (Int × Int)) (a1 a2 : Option Addr) (c1 c2 : Nat) (w : World) (h1 : Sl w (.slice a1 A.length c1) A a1 c1) (h2 : Sl w (.slice a2 B.length c2) B a2 c2) :
    Calls Try.prog 16 #[.slice a1 A.length c1, .slice a2 B.length c2] w fun e w' => e = .returned (.bool (decide (A = B))) ∧ ∃ k, w' = w.drewN k := by
  have m1 := h1.max
  have k1 := h1.cap
  have k2 := h2.cap
  unfold maxLen at m1
  have m2 := h2.max
  unfold maxLen at m2
  by_cases hl : A.length = B.length
  · by_cases hA : A = []
    · subst hA
      obtain rfl : B = [] := List.eq_nil_of_length_eq_zero (by simpa using hl.symm)
      clear h1 h2
      go_enter Try.func16, Try.ntmps16
      go_wp2
      go_loopw [5] (fun i wr => i = .int .i64 0 ∧ wr = w) (fun _ _ => 0)
      case atStart => exact ⟨rfl, rfl⟩
      case round =>
        obtain ⟨rfl, rfl⟩ := hrel
        go_wp2
        go_ret
        exact ⟨rfl, 0, rfl⟩
    · have hB : B ≠ [] := by
        rintro rfl
        exact hA (List.eq_nil_of_length_eq_zero (by simpa using hl))
      obtain ⟨q1, o1, rfl, b1, l1⟩ := h1.place hA
      obtain ⟨q2, o2, rfl, b2, l2⟩ := h2.place hB
      have L1 := hide l1
      have L2 := hide l2
      have HB := hide hl
      rw [← hl] at k2 ⊢
      clear h1 h2 l1 l2 hl hA hB
      generalize hn : A.length = n at *
      have HN := hide hn
      clear hn
      go_enter Try.func16, Try.ntmps16
      go_wp2
      go_loopw [5] (fun i wr => ∃ (k j : Nat), i = .int .i64 (k : Int) ∧ k ≤ n ∧ (∀ i, i < k → at2 A i = at2 B i) ∧ wr = w.drewN j) (fun i _ => n - (intOf i).toNat)
      case atStart => exact ⟨0, 0, rfl, Nat.zero_le _, (fun i hi => by omega), rfl⟩
      case round =>
        obtain ⟨k, j, rfl, hk, hsame, rfl⟩ := hrel
        by_cases hlt : k < n
        · have hd1 := some_at2 (A := A) (k := k) (by have := HN.out; omega)
          have hd2 := some_at2 (A := B) (k := k) (by have := HN.out; have := HB.out; omega)
          have NS := hide (not_same (A := A) (B := B) (k := k))
          have HS : Hid (at2 A k = at2 B k → ∀ i, i < k + 1 → at2 A i = at2 B i) := fun h i hi => by
            by_cases h2 : i < k
            · exact hsame i h2
            · obtain rfl : i = k := by omega
              exact h
          clear hsame
          generalize at2 A k = d1 at *
          generalize at2 B k = d2 at *
          obtain ⟨x, y⟩ := d1
          obtain ⟨x', y'⟩ := d2
          obtain ⟨e0, e1⟩ := L1.out k _ hd1
          obtain ⟨e2, e3⟩ := L2.out k _ hd2
          simp only at e0 e1 e2 e3
          clear L1 L2 hd1 hd2
          by_cases f1 : x = x'
          · subst f1
            by_cases f2 : y = y'
            · subst f2
              have HS2 := hide (HS.out rfl)
              clear HS
              go_wp2
              go_quiet (fail)
              go_wp2
              go_round
              case rel => exact ⟨k + 1, _, by go_num, by omega, HS2.out, rfl⟩
              case measure => simp [intOf]; omega
            · have NE := hide (decide_eq_false (NS.out (by simp; exact f2)))
              clear NS HS
              go_wp2
              go_quiet (fail)
              go_wp2
              go_ret
              exact ⟨by rw [NE.out]; rfl, j + nq, by simp⟩
          · have NE := hide (decide_eq_false (NS.out (by simp; intro h; exact absurd h f1)))
            clear NS HS
            go_wp2
            go_quiet (fail)
            go_wp2
            go_ret
            exact ⟨by rw [NE.out]; rfl, j + nq, by simp⟩
        · obtain rfl : k = n := by omega
          have HE := hide (decide_eq_true (ext_at2 (A := A) (B := B) (by rw [HN.out, HB.out]) (fun i hi => hsame i (by rw [HN.out] at hi; exact hi))))
          clear hsame
          go_wp2
          go_ret
          exact ⟨by rw [HE.out]; rfl, _, rfl⟩
  · have hr : decide (A = B) = false := decide_eq_false (fun e => hl (by rw [e]))
    rw [hr]
    have f1 : ((A.length : Int) == (B.length : Int)) = false := by simp; omega
    clear hr h1 h2
    go_enter Try.func16, Try.ntmps16
    go_wp2
    go_ret
    exact ⟨rfl, 0, rfl⟩

/-- A voice. -/
structure Voi where
  node : Int
  x : Vec
def Voi.val (m : Voi) : Value := .agg #[.int .i64 m.node, .slice m.x.a m.x.D.length m.x.c]
abbrev mayv (node : Int) (n : Nat) : Prop := (1 ≤ n ∧ n ≤ 7) ∧ 0 ≤ node ∧ node < n
/-- Does V know that a life is over? -/
def ov (V D : List (Int × Int)) (k : Nat) : Bool := decide (0 < cm (at2 V k) (at2 D k))
theorem place_any (a : Option Addr) (n c : Nat) (node : Int) (w : World) :
    Calls Try.prog 40 #[.slice a n c, .int .i64 node] w fun e w' => e = .returned (.bool (decide (0 ≤ node ∧ node < n))) ∧ w' = w := by
  by_cases h1 : 0 ≤ node
  · by_cases h2 : node < n
    · go_enter Try.func40, Try.ntmps40
      go_wp2
      go_ret
      exact ⟨by simp [h1, h2], rfl⟩
    · go_enter Try.func40, Try.ntmps40
      go_wp2
      go_ret
      exact ⟨by simp [h1, h2], rfl⟩
  · go_enter Try.func40, Try.ntmps40
    go_wp2
    go_ret
    exact ⟨by simp; omega, rfl⟩
set_option maxHeartbeats 400000 in
theorem voicemay_any (a : Option Addr) (n c : Nat) (node : Int) (w : World) :
    Calls Try.prog 53 #[.agg #[.int .i64 node, .slice a n c]] w fun e w' => e = .returned (.bool (decide (mayv node n))) ∧ Below w.heap.size w w' := by
  by_cases h1 : 1 ≤ n ∧ n ≤ 7
  · have hr : decide (mayv node n) = decide (0 ≤ node ∧ node < n) := by unfold mayv; simp [h1]
    rw [hr]
    clear hr
    have H := hide (fun w => maybe_any a n c w)
    rw [decide_eq_true h1] at H
    generalize hb : decide (0 ≤ node ∧ node < (n : Int)) = b
    have H2 := hide (fun w => place_any a n c node w)
    rw [hb] at H2
    clear hb
    go_enter Try.func53, Try.ntmps53
    go_wp2_with fail
    refine (H.out _).mono ?_
    rintro e w1 ⟨rfl, e1⟩
    subst e1
    go_wp2_with fail
    refine (H2.out _).mono ?_
    rintro e w1 ⟨rfl, e1⟩
    subst e1
    go_wp2
    go_ret
    exact ⟨rfl, (Below.refl _ _).alloc (Nat.le_refl _) _⟩
  · have hr : decide (mayv node n) = false := decide_eq_false (fun h => h1 h.1)
    rw [hr]
    clear hr
    have H := hide (fun w => maybe_any a n c w)
    rw [decide_eq_false h1] at H
    go_enter Try.func53, Try.ntmps53
    go_wp2_with fail
    refine (H.out _).mono ?_
    rintro e w1 ⟨rfl, e1⟩
    subst e1
    go_wp2
    go_ret
    exact ⟨rfl, (Below.refl _ _).alloc (Nat.le_refl _) _⟩
set_option maxRecDepth 100000 in
set_option maxHeartbeats 1000000 in
theorem knows_any (V D : List (Int × Int)) (a1 a2 : Option Addr) (c1 c2 k : Nat) (w : World) (h1 : Sl w (.slice a1 V.length c1) V a1 c1) (h2 : Sl w (.slice a2 D.length c2) D a2 c2) (hk : k < D.length) (hl : V.length = D.length) :
    Calls Try.prog 50 #[.slice a1 V.length c1, .agg #[.int .i64 (k : Int), .slice a2 D.length c2]] w fun e w' => e = .returned (.bool (ov V D k)) ∧ Below w.heap.size w w' := by
  have m1 := h1.max
  have k1 := h1.cap
  have k2 := h2.cap
  unfold maxLen at m1
  have m2 := h2.max
  unfold maxLen at m2
  obtain ⟨q1, o1, rfl, b1, l1⟩ := h1.place (by rintro rfl; simp at hl; omega)
  obtain ⟨q2, o2, rfl, b2, l2⟩ := h2.place (by rintro rfl; simp at hk)
  have hd1 := some_at2 (A := V) (k := k) (by omega)
  have hd2 := some_at2 (A := D) (k := k) hk
  unfold ov cm
  generalize at2 V k = d1 at *
  generalize at2 D k = d2 at *
  obtain ⟨x, y⟩ := d1
  obtain ⟨x', y'⟩ := d2
  obtain ⟨e0, e1⟩ := l1 k _ hd1
  obtain ⟨e2, e3⟩ := l2 k _ hd2
  simp only at e0 e1 e2 e3
  rw [hl] at k1 ⊢
  clear h1 h2 l1 l2 hd1 hd2 hl
  generalize D.length = n at *
  clear V D
  have KS : ∀ v, Below (w.heap.size + 1) (w.alloc (.cells #[.int .i64 (k : Int), .slice (some ⟨q2, o2, none⟩) n c2] 56)) v → (Below (w.heap.size + 1) (w.alloc (.cells #[.int .i64 (k : Int), .slice (some ⟨q2, o2, none⟩) n c2] 56)) v ∧ v.cell? ⟨w.heap.size, 0, none⟩ = some (.int .i64 (k : Int)) ∧ v.cell? ⟨w.heap.size, 1, none⟩ = some (.slice (some ⟨q2, o2, none⟩) n c2)
      ∧ v.cell? ⟨q1, o1 + k * 2, none⟩ = some (.int .u64 x) ∧ v.cell? ⟨q1, o1 + k * 2 + 1, none⟩ = some (.int .u64 y) ∧ v.cell? ⟨q2, o2 + k * 2, none⟩ = some (.int .u64 x') ∧ v.cell? ⟨q2, o2 + k * 2 + 1, none⟩ = some (.int .u64 y')) := fun v b =>
    ⟨b, (b.cell (p := ⟨w.heap.size, 0, none⟩) (Nat.lt_succ_self _)).trans (by simp), (b.cell (p := ⟨w.heap.size, 1, none⟩) (Nat.lt_succ_self _)).trans (by simp),
     (b.cell (p := ⟨q1, o1 + k * 2, none⟩) (by show q1 < w.heap.size + 1; omega)).trans ((World.cell?_alloc_past _ _ _ (by show q1 < w.heap.size; omega)).trans e0), (b.cell (p := ⟨q1, o1 + k * 2 + 1, none⟩) (by show q1 < w.heap.size + 1; omega)).trans ((World.cell?_alloc_past _ _ _ (by show q1 < w.heap.size; omega)).trans e1),
     (b.cell (p := ⟨q2, o2 + k * 2, none⟩) (by show q2 < w.heap.size + 1; omega)).trans ((World.cell?_alloc_past _ _ _ (by show q2 < w.heap.size; omega)).trans e2), (b.cell (p := ⟨q2, o2 + k * 2 + 1, none⟩) (by show q2 < w.heap.size + 1; omega)).trans ((World.cell?_alloc_past _ _ _ (by show q2 < w.heap.size; omega)).trans e3)⟩
  have KH := hide KS
  clear KS
  go_enter Try.func50, Try.ntmps50
  go_wp2_with fail
  go_region_held3 (fun v => Below (w.heap.size + 1) (w.alloc (.cells #[.int .i64 (k : Int), .slice (some ⟨q2, o2, none⟩) n c2] 56)) v ∧ v.cell? ⟨w.heap.size, 0, none⟩ = some (.int .i64 (k : Int)) ∧ v.cell? ⟨w.heap.size, 1, none⟩ = some (.slice (some ⟨q2, o2, none⟩) n c2)
      ∧ v.cell? ⟨q1, o1 + k * 2, none⟩ = some (.int .u64 x) ∧ v.cell? ⟨q1, o1 + k * 2 + 1, none⟩ = some (.int .u64 y) ∧ v.cell? ⟨q2, o2 + k * 2, none⟩ = some (.int .u64 x') ∧ v.cell? ⟨q2, o2 + k * 2 + 1, none⟩ = some (.int .u64 y'))
    (first | exact KH.out _ (Below.refl _ _).drew | exact KH.out _ (by assumption))
    (first
      | (go_at_call 48; refine (compare_any _ _ _ _ _).mono ?_; rintro e v ⟨rfl, bv⟩; have bb := Below.on (w := w.alloc (.cells #[.int .i64 (k : Int), .slice (some ⟨q2, o2, none⟩) n c2] 56)) (B := w.heap.size + 1) (by simp) (by first | assumption | exact (Below.refl _ _).drew) bv))
  have hw : Below w.heap.size w v := ((Below.refl _ _).alloc (Nat.le_refl _) _).trans (bb.mono (by omega))
  clear KH bv bb
  go_wp2
  go_ret
  exact ⟨by simp, hw⟩
set_option maxRecDepth 100000 in
set_option maxHeartbeats 1000000 in
/-- Over. -/
theorem over_any (V D : List (Int × Int)) (a1 a2 : Option Addr) (c1 c2 : Nat) (node : Int) (w : World) (h1 : Sl w (.slice a1 V.length c1) V a1 c1) (h2 : Sl w (.slice a2 D.length c2) D a2 c2) :
    Calls Try.prog 30 #[.slice a1 V.length c1, .agg #[.int .i64 node, .slice a2 D.length c2]] w fun e w' => e = .returned (.bool (decide (mayv node D.length ∧ V.length = D.length) && ov V D node.toNat)) ∧ Below w.heap.size w w' := by
  have H := hide (fun w => voicemay_any a2 D.length c2 node w)
  by_cases hm : mayv node D.length
  · rw [decide_eq_true hm] at H
    by_cases hl : V.length = D.length
    · obtain ⟨k, rfl⟩ : ∃ k : Nat, node = (k : Int) := ⟨node.toNat, by have := hm.2.1; omega⟩
      have hr : decide (mayv (k : Int) D.length ∧ V.length = D.length) = true := decide_eq_true ⟨hm, hl⟩
      rw [hr, Bool.true_and, Int.toNat_natCast]
      have HK := hide (fun w h1 h2 => knows_any V D a1 a2 c1 c2 k w h1 h2 (by have := hm.2.2; omega) hl)
      have H1 := hide h1
      have H2 := hide h2
      rw [hl] at HK H1 ⊢
      generalize ov V D k = b at *
      clear hr h1 h2
      generalize hn : D.length = n at *
      go_enter Try.func30, Try.ntmps30
      go_wp2_with fail
      refine (H.out _).mono ?_
      rintro e w1 ⟨rfl, bb⟩
      have b1 : Below w.heap.size w w1 := ((Below.refl _ _).alloc (Nat.le_refl _) _).trans (bb.mono (by simp))
      have hs := b1.size
      have z0 : w1.cell? ⟨w.heap.size, 0, none⟩ = some (.int .i64 (k : Int)) := (bb.cell (p := ⟨w.heap.size, 0, none⟩) (by simp)).trans (by simp)
      have z1 : w1.cell? ⟨w.heap.size, 1, none⟩ = some (.slice a2 n c2) := (bb.cell (p := ⟨w.heap.size, 1, none⟩) (by simp)).trans (by simp)
      clear bb
      go_wp2_with fail
      refine (HK.out w1 ?_ ?_).mono ?_
      · exact H1.out.upd (S := fun _ => False) (Upd.of_below b1) (fun _ _ _ => id)
      · exact H2.out.upd (S := fun _ => False) (Upd.of_below b1) (fun _ _ _ => id)
      rintro e w2 ⟨rfl, b2⟩
      go_wp2
      go_ret
      exact ⟨rfl, b1.trans (b2.mono hs)⟩
    · have hr : decide (mayv node D.length ∧ V.length = D.length) = false := decide_eq_false (fun h => hl h.2)
      rw [hr, Bool.false_and]
      have f1 : ((V.length : Int) == (D.length : Int)) = false := by simp; omega
      clear hr h1 h2
      generalize V.length = m at *
      generalize D.length = n at *
      go_enter Try.func30, Try.ntmps30
      go_wp2_with fail
      refine (H.out _).mono ?_
      rintro e w1 ⟨rfl, bb⟩
      have b1 : Below w.heap.size w w1 := ((Below.refl _ _).alloc (Nat.le_refl _) _).trans (bb.mono (by simp))
      have z0 : w1.cell? ⟨w.heap.size, 0, none⟩ = some (.int .i64 node) := (bb.cell (p := ⟨w.heap.size, 0, none⟩) (by simp)).trans (by simp)
      have z1 : w1.cell? ⟨w.heap.size, 1, none⟩ = some (.slice a2 n c2) := (bb.cell (p := ⟨w.heap.size, 1, none⟩) (by simp)).trans (by simp)
      clear bb
      go_wp2
      go_ret
      exact ⟨rfl, b1⟩
  · have hr : decide (mayv node D.length ∧ V.length = D.length) = false := decide_eq_false (fun h => hm h.1)
    rw [hr, Bool.false_and]
    rw [decide_eq_false hm] at H
    clear hr h1 h2
    go_enter Try.func30, Try.ntmps30
    go_wp2_with fail
    refine (H.out _).mono ?_
    rintro e w1 ⟨rfl, bb⟩
    have b1 : Below w.heap.size w w1 := ((Below.refl _ _).alloc (Nat.le_refl _) _).trans (bb.mono (by simp))
    clear bb
    go_wp2
    go_ret
    exact ⟨rfl, b1⟩

end Go.Proofs.Ytcchnaldanibgaa
