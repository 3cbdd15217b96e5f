import Derived.Test.YtcchnaldanibgaaVd
namespace Go.Proofs.Ytcchnaldanibgaa
open Go.RowKit
set_option linter.unusedVariables false
set_option linter.unusedSimpArgs false

/-- A vector, wherever it lies. -/
structure Vec where
  a : Option Addr
  c : Nat
  D : List (Int × Int)
def Vec.v (x : Vec) : Value := .slice x.a x.D.length x.c
def Vec.ok (w : World) (x : Vec) : Prop := Sl w (.slice x.a x.D.length x.c) x.D x.a x.c
theorem Vec.ok.upd {S : Nat → Prop} {w w' : World} {x : Vec} (h : x.ok w) (u : Upd S w w') (hs : ∀ z, x.a = some z → x.D ≠ [] → ¬ S z.block) : x.ok w' := Sl.upd h u hs
theorem Vec.ok.bel {w w' : World} {x : Vec} (h : x.ok w) {B : Nat} (b : Below B w w') (hB : w.heap.size ≤ B) : x.ok w' :=
  h.upd (S := fun _ => False) (Upd.of_below (b.mono hB)) (fun _ _ _ => id)
/-- Vectors that lie from an address on. -/
def LieV (w : World) (q o : Nat) (L : List Vec) : Prop := ∀ i x, L[i]? = some x → w.cell? ⟨q, o + i, none⟩ = some (.slice x.a x.D.length x.c) ∧ x.ok w
theorem LieV.tail {w : World} {q o : Nat} {x : Vec} {L : List Vec} (h : LieV w q o (x :: L)) : LieV w q (o + 1) L := fun i e he => by
  have := h (i + 1) e (by simpa using he)
  rw [show o + 1 + i = o + (i + 1) from by omega]
  exact this
theorem LieV.bel {w w' : World} {q o : Nat} {L : List Vec} (h : LieV w q o L) (hq : q < w.heap.size) (b : Below w.heap.size w w') : LieV w' q o L := fun i x hx =>
  ⟨(b.cell (p := ⟨q, o + i, none⟩) hq).trans (h i x hx).1, (h i x hx).2.bel b (Nat.le_refl _)⟩

theorem group_any (n : Int) (w : World) :
    Calls Try.prog 38 #[.int .i64 n] w fun e w' => e = .returned (.bool (decide (1 ≤ n ∧ n ≤ 7))) ∧ w' = w := by
  by_cases h1 : 1 ≤ n
  · by_cases h2 : n ≤ 7
    · go_enter Try.func38, Try.ntmps38
      go_wp2
      go_ret
      exact ⟨by simp [h1, h2], rfl⟩
    · go_enter Try.func38, Try.ntmps38
      go_wp2
      go_ret
      exact ⟨by simp [h1, h2], rfl⟩
  · go_enter Try.func38, Try.ntmps38
    go_wp2
    go_ret
    exact ⟨by simp; omega, rfl⟩
theorem maybe_any (a : Option Addr) (n c : Nat) (w : World) :
    Calls Try.prog 39 #[.slice a n c] w fun e w' => e = .returned (.bool (decide (1 ≤ n ∧ n ≤ 7))) ∧ w' = w := by
  have H := hide (group_any (n : Int) w)
  go_enter Try.func39, Try.ntmps39
  go_wp2_with fail
  refine H.out.mono ?_
  rintro e w1 ⟨rfl, e1⟩
  have e1 := e1.symm
  subst e1
  go_wp2
  go_ret
  refine ⟨?_, rfl⟩
  by_cases h : 1 ≤ n ∧ n ≤ 7
  · rw [decide_eq_true h]; simp; omega
  · rw [decide_eq_false h]; simp; omega

theorem mer_snoc : ∀ (L : List (List (Int × Int))) (M V : List (Int × Int)), mer M (L ++ [V]) = jn (mer M L) V
  | [], M, V => rfl
  | X :: L, M, V => by rw [List.cons_append, mer, mer, mer_snoc L]

theorem merge_none (a : Option Addr) (c : Nat) (w : World) :
    Calls Try.prog 20 #[.slice a 0 c] w fun e w' => e = .returned (.tuple #[.slice none 0 0, .int .i64 30]) ∧ w' = w := by
  go_enter Try.func20, Try.ntmps20
  go_wp2
  go_ret2
  exact ⟨rfl, rfl⟩
set_option maxRecDepth 100000 in
set_option maxHeartbeats 400000 in
theorem merge_bad0 (x : Vec) (L : List Vec) (q o c : Nat) (w : World) (h : LieV w q o (x :: L)) (hx : ¬ (1 ≤ x.D.length ∧ x.D.length ≤ 7)) :
    Calls Try.prog 20 #[.slice (some ⟨q, o, none⟩) (L.length + 1) c] w fun e w' => e = .returned (.tuple #[.slice none 0 0, .int .i64 30]) ∧ w' = w := by
  have e0 := (h 0 x rfl).1
  rw [Nat.add_zero] at e0
  clear h
  have H := hide (maybe_any x.a x.D.length x.c w)
  rw [decide_eq_false hx] at H
  have f1 : ((L.length : Int) + 1 == 0) = false := by simp; omega
  have f2 : ¬ ((L.length : Int) + 1 = 0) := by omega
  generalize x.D.length = n at *
  generalize x.a = xa at *
  generalize x.c = xc at *
  generalize L.length = m at *
  clear x L
  go_enter Try.func20, Try.ntmps20
  go_wp2_with fail
  refine H.out.mono ?_
  rintro e w1 ⟨rfl, e1⟩
  have e1 := e1.symm
  subst e1
  go_wp2
  go_ret2
  exact ⟨rfl, rfl⟩
set_option maxRecDepth 100000 in
set_option maxHeartbeats 1000000 in
theorem merge_ok (x : Vec) (L : List Vec) (q o c : Nat) (w : World) (h : LieV w q o (x :: L)) (hq : q < w.heap.size) (hc : L.length + 1 ≤ c) (hm : c ≤ maxLen) (hx : 1 ≤ x.D.length ∧ x.D.length ≤ 7) (hall : ∀ y, y ∈ L → y.D.length = x.D.length) :
    Calls Try.prog 20 #[.slice (some ⟨q, o, none⟩) (L.length + 1) c] w fun e w' => ∃ g, e = .returned (.tuple #[.slice (some ⟨g, 0, none⟩) x.D.length x.D.length, .int .i64 0]) ∧ OwnD w.heap.size w' (.slice (some ⟨g, 0, none⟩) x.D.length x.D.length) (mer x.D (L.map (·.D))) ∧ Below w.heap.size w w' := by
  obtain ⟨e0, s0⟩ := h 0 x rfl
  rw [Nat.add_zero] at e0
  have H := hide (maybe_any x.a x.D.length x.c w)
  rw [decide_eq_true hx] at H
  have hD : x.D ≠ [] := by
    intro e
    rw [e] at hx
    simp at hx
  have HC := hide (copied_any x.D x.a x.c w s0 hD (by omega))
  have T := hide h.tail
  have HA := hide hall
  unfold maxLen at hm
  have f1 : ((L.length : Int) + 1 == 0) = false := by simp; omega
  have f2 : ¬ ((L.length : Int) + 1 = 0) := by omega
  clear h hall s0
  obtain ⟨xa, xc, M⟩ := x
  simp only at *
  generalize hn : M.length = n at *
  have HN := hide hn
  generalize hm : L.length = m at *
  have HM := hide hm
  clear hm hn
  have hcast : ((m + 1 : Nat) : Int) - 1 = (m : Int) := by omega
  go_enter Try.func20, Try.ntmps20
  go_wp2_with fail
  refine H.out.mono ?_
  rintro e w1 ⟨rfl, e1⟩
  have e1 := e1.symm
  subst e1
  clear H
  go_wp2_with fail
  refine HC.out.mono ?_
  rintro e w1 ⟨g, rfl, o1, b1⟩
  clear HC
  have O1 := hide o1
  clear o1
  by_cases hc1 : c = 1
  · subst hc1
    obtain rfl : m = 0 := by omega
    obtain rfl : L = [] := List.eq_nil_of_length_eq_zero HM.out
    go_wp2_with fail
    go_loopw [24] (fun i wr => i = .int .i64 0 ∧ wr = w1) (fun _ _ => 0)
    case atStart => exact ⟨rfl, rfl⟩
    case round =>
      obtain ⟨rfl, rfl⟩ := hrel
      go_wp2
      go_ret2
      exact ⟨g, rfl, O1.out, b1⟩
  · go_wp2_with fail
    go_loopw [24] (fun i wr => ∃ (k : Nat), i = .int .i64 (k : Int) ∧ k ≤ m ∧ OwnD w.heap.size wr (.slice (some ⟨g, 0, none⟩) n n) (mer M ((L.map (·.D)).take k)) ∧ Below w.heap.size w wr) (fun i _ => m - (intOf i).toNat)
    case atStart => exact ⟨0, rfl, Nat.zero_le _, O1.out, b1⟩
    case round =>
      obtain ⟨k, rfl, hk, ho, hb⟩ := hrel
      have hsz := hb.size
      by_cases hlt : k < m
      · have hlL : k < L.length := by rw [HM.out]; exact hlt
        obtain ⟨y, hy⟩ : ∃ y, L[k]? = some y := ⟨_, List.getElem?_eq_getElem hlL⟩
        obtain ⟨t0, t1⟩ := T.out k y hy
        have hyl := HA.out y (List.mem_of_getElem? hy)
        have t0 := (hb.cell (p := ⟨q, o + 1 + k, none⟩) hq).trans t0
        have t2 := t1.bel hb (Nat.le_refl _)
        have hst : (L.map (·.D)).take (k + 1) = (L.map (·.D)).take k ++ [y.D] := by rw [List.take_add_one]; simp [hy]
        have hyD : y.D ≠ [] := by
          intro e
          rw [e] at hyl
          simp at hyl
          omega
        have hml : (mer M ((L.map (·.D)).take k)).length = n := by rw [mer_length]; exact HN.out
        have R := raise_any w.heap.size g n (mer M ((L.map (·.D)).take k)) y.D y.a y.c wr (by rw [hml]; exact ho) hsz t2 (by rw [hml, hyl]) hyD (fun z hz => by
          obtain ⟨q', o', e, hq', _⟩ := Sl.place t1 hyD
          rw [e] at hz
          cases hz
          exact hq')
        rw [hml, hyl] at R
        rw [hyl] at t0
        have RH := hide R
        have ST := hide hst
        clear R t1 t2 hst hy hml
        obtain ⟨ya, yc, yD⟩ := y
        simp only at t0 RH ST hyl
        go_wp2_with fail
        refine RH.out.mono ?_
        rintro e w2 ⟨rfl, o2, b2⟩
        have O2 := hide o2
        clear RH o2
        go_wp2
        go_round
        case rel => exact ⟨k + 1, by go_num, by omega, by rw [ST.out, mer_snoc]; exact O2.out, hb.trans b2⟩
        case measure => simp [intOf]; omega
      · obtain rfl : k = m := by omega
        rw [List.take_of_length_le (by rw [List.length_map, HM.out]; exact Nat.le_refl _)] at ho
        have HO := hide ho
        clear ho
        go_wp2
        go_ret2
        exact ⟨g, rfl, HO.out, hb⟩
set_option maxRecDepth 100000 in
set_option maxHeartbeats 1000000 in
theorem merge_bad (x : Vec) (L : List Vec) (q o c : Nat) (w : World) (h : LieV w q o (x :: L)) (hq : q < w.heap.size) (hc : L.length + 1 ≤ c) (hm : c ≤ maxLen) (hx : 1 ≤ x.D.length ∧ x.D.length ≤ 7) (hall : ¬ ∀ y, y ∈ L → y.D.length = x.D.length) :
    Calls Try.prog 20 #[.slice (some ⟨q, o, none⟩) (L.length + 1) c] w fun e w' => e = .returned (.tuple #[.slice none 0 0, .int .i64 30]) ∧ Below w.heap.size w w' := by
  obtain ⟨e0, s0⟩ := h 0 x rfl
  rw [Nat.add_zero] at e0
  have H := hide (maybe_any x.a x.D.length x.c w)
  rw [decide_eq_true hx] at H
  have hD : x.D ≠ [] := by
    intro e
    rw [e] at hx
    simp at hx
  have HC := hide (copied_any x.D x.a x.c w s0 hD (by omega))
  have T := hide h.tail
  have HA := hide hall
  unfold maxLen at hm
  have f1 : ((L.length : Int) + 1 == 0) = false := by simp; omega
  have f2 : ¬ ((L.length : Int) + 1 = 0) := by omega
  clear h hall s0
  obtain ⟨xa, xc, M⟩ := x
  simp only at *
  generalize hn : M.length = n at *
  have HN := hide hn
  generalize hm : L.length = m at *
  have HM := hide hm
  clear hm hn
  go_enter Try.func20, Try.ntmps20
  go_wp2_with fail
  refine H.out.mono ?_
  rintro e w1 ⟨rfl, e1⟩
  have e1 := e1.symm
  subst e1
  clear H
  go_wp2_with fail
  refine HC.out.mono ?_
  rintro e w1 ⟨g, rfl, o1, b1⟩
  clear HC
  have O1 := hide o1
  clear o1
  by_cases hc1 : c = 1
  · subst hc1
    obtain rfl : m = 0 := by omega
    obtain rfl : L = [] := List.eq_nil_of_length_eq_zero HM.out
    exact absurd (fun y hy => by cases hy) HA.out
  · go_wp2_with fail
    go_loopw [24] (fun i wr => ∃ (k : Nat), i = .int .i64 (k : Int) ∧ k ≤ m ∧ OwnD w.heap.size wr (.slice (some ⟨g, 0, none⟩) n n) (mer M ((L.map (·.D)).take k)) ∧ (∀ y, y ∈ L.take k → y.D.length = n) ∧ Below w.heap.size w wr) (fun i _ => m - (intOf i).toNat)
    case atStart => exact ⟨0, rfl, Nat.zero_le _, O1.out, (fun y hy => by cases hy), b1⟩
    case round =>
      obtain ⟨k, rfl, hk, ho, ha, hb⟩ := hrel
      have hsz := hb.size
      by_cases hlt : k < m
      · have hlL : k < L.length := by rw [HM.out]; exact hlt
        obtain ⟨y, hy⟩ : ∃ y, L[k]? = some y := ⟨_, List.getElem?_eq_getElem hlL⟩
        obtain ⟨t0, t1⟩ := T.out k y hy
        have t0 := (hb.cell (p := ⟨q, o + 1 + k, none⟩) hq).trans t0
        by_cases hyl : y.D.length = n
        · have t2 := t1.bel hb (Nat.le_refl _)
          have hst : (L.map (·.D)).take (k + 1) = (L.map (·.D)).take k ++ [y.D] := by rw [List.take_add_one]; simp [hy]
          have hst2 : L.take (k + 1) = L.take k ++ [y] := by rw [List.take_add_one]; simp [hy]
          have hyD : y.D ≠ [] := by
            intro e
            rw [e] at hyl
            simp at hyl
            omega
          have hml : (mer M ((L.map (·.D)).take k)).length = n := by rw [mer_length]; exact HN.out
          have R := raise_any w.heap.size g n (mer M ((L.map (·.D)).take k)) y.D y.a y.c wr (by rw [hml]; exact ho) hsz t2 (by rw [hml, hyl]) hyD (fun z hz => by
            obtain ⟨q', o', e, hq', _⟩ := Sl.place t1 hyD
            rw [e] at hz
            cases hz
            exact hq')
          rw [hml, hyl] at R
          rw [hyl] at t0
          have RH := hide R
          have ST := hide hst
          have ST2 := hide hst2
          have HAA := hide ha
          clear R t1 t2 hst hst2 hy hml ha
          obtain ⟨ya, yc, yD⟩ := y
          simp only at t0 RH ST hyl
          go_wp2_with fail
          refine RH.out.mono ?_
          rintro e w2 ⟨rfl, o2, b2⟩
          have O2 := hide o2
          clear RH o2
          go_wp2
          go_round
          case rel =>
            refine ⟨k + 1, by go_num, by omega, by rw [ST.out, mer_snoc]; exact O2.out, ?_, hb.trans b2⟩
            intro y hy
            rw [ST2.out, List.mem_append, List.mem_singleton] at hy
            rcases hy with hy | rfl
            · exact HAA.out y hy
            · exact hyl
          case measure => simp [intOf]; omega
        · obtain ⟨ya, yc, yD⟩ := y
          simp only at t0 hyl
          generalize yD.length = ly at *
          have f3 : ((ly : Int) == (n : Int)) = false := by simp; omega
          clear t1 ho hy ha
          go_wp2
          go_ret2
          exact ⟨rfl, hb⟩
      · obtain rfl : k = m := by omega
        rw [List.take_of_length_le (by rw [HM.out]; exact Nat.le_refl _)] at ha
        exact absurd ha HA.out

end Go.Proofs.Ytcchnaldanibgaa
