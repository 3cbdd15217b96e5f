import Derived.Test.YtolnkoneilipeaaKg
namespace Go.Proofs.Ytolnkoneilipeaa
open Go.RowKit Go.Maps
open Classical
set_option linter.unusedVariables false
set_option linter.unusedSimpArgs false

/-- Cut's answer. -/
def ctL (L : List En) (n : Int) : List En := if n < 0 ∨ (L.length : Int) < n then [] else L.take n.toNat
def ctE (L : List En) (n : Int) : Int := if n < 0 ∨ (L.length : Int) < n then 61 else 0
/-- Tail's answer. -/
def tlL (L : List En) (n : Int) : List En := if n < 1 ∨ (L.length : Int) + 1 < n then [] else L.drop (n - 1).toNat
def tlE (L : List En) (n : Int) : Int := if n < 1 ∨ (L.length : Int) + 1 < n then 61 else 0
theorem lay_two (D D2 : List En) (a a2 : Option Addr) (n c n2 c2 : Nat) (w : World) (h : SlY yE w a n c D) (h2 : SlY yE w a2 n2 c2 D2) (hb : (n + n2) * 48 ≤ 281474976710656) (T : TypeId) :
    Calls Try.prog 16 #[.slice (some ⟨w.heap.size, 0, none⟩) 2 2] (w.alloc (.cells #[.slice a n c, .slice a2 n2 c2] T)) fun e w' => e = .returned (.slice (some ⟨w.heap.size + 1, 0, none⟩) (n + n2) (n + n2)) ∧ OwnY yE (w.heap.size + 1) w' (.slice (some ⟨w.heap.size + 1, 0, none⟩) (n + n2) (n + n2)) (D ++ D2) ∧ Below (w.heap.size + 1) (w.alloc (.cells #[.slice a n c, .slice a2 n2 c2] T)) w' := by
  have hln := h.len
  have hln2 := h2.len
  have hx : tot [(⟨a, c, D⟩ : SV En), ⟨a2, c2, D2⟩] = n + n2 := by simp [tot, hln, hln2]
  have hy : flat [(⟨a, c, D⟩ : SV En), ⟨a2, c2, D2⟩] = D ++ D2 := by simp [flat]
  have := lay_any [⟨a, c, D⟩, ⟨a2, c2, D2⟩] (some ⟨w.heap.size, 0, none⟩) 2 2 (w.alloc (.cells #[.slice a n c, .slice a2 n2 c2] T)) (by
    have := sl_lit kzE w [⟨a, c, D⟩, ⟨a2, c2, D2⟩] T (by unfold maxLen; simp)
    simp only [fl, zE, yS, hln, hln2, List.length_cons, List.length_nil, List.cons_append, List.nil_append] at this
    exact this) (fun x hx => by
      simp at hx
      rcases hx with rfl | rfl
      · dsimp only
        rw [hln]
        exact h.later ((Below.refl _ _).alloc (Nat.le_refl _) _)
      · dsimp only
        rw [hln2]
        exact h2.later ((Below.refl _ _).alloc (Nat.le_refl _) _)) (by rw [hx]; exact hb)
  rw [hx, hy, World.size_alloc] at this
  exact this
end Go.Proofs.Ytolnkoneilipeaa

namespace Go.Proofs.Ytolnkoneilipeaa
open Go.RowKit Go.Maps
set_option linter.unusedVariables false
set_option linter.unusedSimpArgs false

/-- Splice's answer. -/
def spE (L : List En) (room at_ : Int) (T : List En) : Int := if (chk L room).1 ≠ 0 then (chk L room).1 else if at_ < 1 ∨ (L.length : Int) + 1 < at_ then 61 else (chk (L.take (at_ - 1).toNat ++ T) room).1
def spL (L : List En) (room at_ : Int) (T : List En) : List En := if spE L room at_ T = 0 then L.take (at_ - 1).toNat ++ T else []
theorem chk_zero {L : List En} {room : Int} (h : (chk L room).1 = 0) : L.length ≤ 256 ∧ 1 ≤ room ∧ room ≤ 256 ∧ (L.length : Int) ≤ room := by
  unfold chk at h
  by_cases h1 : room < 1 ∨ 256 < room
  · simp [h1] at h
  · by_cases h2 : room < L.length
    · simp [h1, h2] at h
    · omega
set_option maxRecDepth 100000 in
set_option maxHeartbeats 1000000 in
theorem spliceO_any (L T : List En) (a b : Option Addr) (n c nb cb : Nat) (room at_ : Int) (w : World) (h : SlY yE w a n c L) (ht : SlY yE w b nb cb T) (hf : ∀ e ∈ L, e.fits) (hft : ∀ e ∈ T, e.fits) (hb : nb * 48 ≤ 140737488355328) :
    Calls Try.prog 23 #[.slice a n c, .int .i64 room, .int .i64 at_, .slice b nb cb] w fun e w' => ∃ v, e = .returned (.tuple #[v, .int .i64 (spE L room at_ T)]) ∧ OwnY yE w.heap.size w' v (spL L room at_ T) ∧ Below w.heap.size w w' := by
  have hln := h.len
  have hcp := h.cap
  have hmx := h.max
  unfold maxLen at hmx
  have C1 := hide (checkO_any L a n c room w h hf)
  have hz := chk_zero (L := L) (room := room)
  have hchk : Hid (∀ s, L.take s ++ T = L.take s ++ T) := fun _ => rfl
  have HS := hide h
  have HT := hide ht
  clear h ht
  by_cases hx : (chk L room).1 = 0
  · obtain ⟨z1, z2, z3, z4⟩ := hz hx
    rw [hln] at z1 z4
    rw [hx] at C1
    generalize (chk L room).2 = X2 at C1
    by_cases h1 : at_ < 1
    · have e1 : Hid (spE L room at_ T = 61) := by show _ = _; simp [spE, hx, h1]
      have e2 : Hid (spL L room at_ T = []) := by show _ = _; simp [spL, e1.out]
      rw [e1.out, e2.out]
      have d1 : decide (at_ < 1) = true := by simpa using h1
      clear e1 e2
      go_enter Try.func23, Try.ntmps23
      go_wp2_with (go_at_call 24; refine C1.out.mono ?_; rintro e w1 ⟨rfl, b1⟩)
      go_ret2
      exact ⟨_, rfl, OwnY.nil _ _ _, b1⟩
    · by_cases h2 : (n : Int) + 1 < at_
      · have e1 : Hid (spE L room at_ T = 61) := by show _ = _; simp [spE, hx, hln, h2]
        have e2 : Hid (spL L room at_ T = []) := by show _ = _; simp [spL, e1.out]
        rw [e1.out, e2.out]
        clear e1 e2
        go_enter Try.func23, Try.ntmps23
        go_wp2_with (go_at_call 24; refine C1.out.mono ?_; rintro e w1 ⟨rfl, b1⟩)
        go_ret2
        exact ⟨_, rfl, OwnY.nil _ _ _, b1⟩
      · obtain ⟨m, rfl⟩ : ∃ m : Nat, at_ = (m : Int) + 1 := ⟨(at_ - 1).toNat, by omega⟩
        have hm : m ≤ n := by omega
        obtain ⟨Z, hZ⟩ : ∃ Z, Z = L.take m ++ T := ⟨_, rfl⟩
        have hm1 : ((m : Int) + 1 - 1).toNat = m := by omega
        have e1 : Hid (spE L room ((m : Int) + 1) T = (chk Z room).1) := by
          show _ = _
          have : ¬ ((m : Int) + 1 < 1 ∨ (L.length : Int) + 1 < (m : Int) + 1) := by omega
          rw [spE, if_neg (by simp [hx]), if_neg this, hm1, hZ]
        have e2 : Hid (spL L room ((m : Int) + 1) T = if (chk Z room).1 = 0 then Z else []) := by
          show _ = _
          rw [spL, e1.out, hm1, hZ]
        rw [e1.out, e2.out]
        have HTK := hide (HS.out.take m hm).recap
        have hnil := HS.out.nil
        have HC2 : Hid (∀ (w2 : World) (g p : Nat), SlY yE w2 (some ⟨g, 0, none⟩) p p Z → Calls Try.prog 24 #[.slice (some ⟨g, 0, none⟩) p p, .int .i64 room] w2 fun e w' => e = .returned (.tuple #[.int .i64 (chk Z room).1, .int .i64 (chk Z room).2]) ∧ Below w2.heap.size w2 w') := fun w2 g p hs => checkO_any Z _ p p room w2 hs (by
          intro e he
          rw [hZ, List.mem_append] at he
          rcases he with he | he
          · exact hf e (List.mem_of_mem_take he)
          · exact hft e he)
        have HLY : Hid (∀ (w2 : World), Below w.heap.size w w2 → Calls Try.prog 16 #[.slice (some ⟨w2.heap.size, 0, none⟩) 2 2] (w2.alloc (.cells #[.slice a m m, .slice b nb cb] 31)) fun e w' => e = .returned (.slice (some ⟨w2.heap.size + 1, 0, none⟩) (m + nb) (m + nb)) ∧ OwnY yE (w2.heap.size + 1) w' (.slice (some ⟨w2.heap.size + 1, 0, none⟩) (m + nb) (m + nb)) Z ∧ Below (w2.heap.size + 1) (w2.alloc (.cells #[.slice a m m, .slice b nb cb] 31)) w') := fun w2 hw2 => by
          rw [hZ]
          exact lay_two _ _ _ _ _ _ _ _ w2 (HTK.out.later hw2) (HT.out.later hw2) (by omega) _
        clear e1 e2 hf hft hm1 hz hx hZ HTK HS HT hchk hln
        generalize chk Z room = Y at *
        obtain ⟨y, y2⟩ := Y
        dsimp only at *
        rcases a with _ | x
        · obtain ⟨rfl, rfl⟩ := hnil rfl
          obtain rfl : m = 0 := by omega
          have HLY0 := HLY.out
          simp only [Nat.zero_add] at HLY0
          have HLY0 := hide HLY0
          clear hnil HLY
          go_enter Try.func23, Try.ntmps23
          go_wp2_with fail
          refine C1.out.mono ?_
          rintro e w1 ⟨rfl, b1⟩
          go_wp2_with fail
          refine (HLY0.out w1 b1).mono ?_
          rintro e w2 ⟨rfl, o2, b2⟩
          have b12 : Below w1.heap.size w1 w2 := ((Below.refl _ _).alloc (Nat.le_refl _) _).trans (b2.mono (Nat.le_succ _))
          go_wp2_with fail
          refine (HC2.out w2 _ _ (o2.sl' kE)).mono ?_
          rintro e w3 ⟨rfl, b3⟩
          have z1 := b1.size
          have b4 : Below w.heap.size w w3 := (b1.trans (b12.mono z1)).trans (b3.mono (by have := b12.size; omega))
          have HO := hide ((o2.grow b3).low (show w.heap.size ≤ w1.heap.size + 1 by omega))
          clear o2 b2 b12 HLY0 HC2 C1 b1 b3
          by_cases hy : y = 0
          · subst hy
            go_wp2
            go_ret2
            exact ⟨_, rfl, by simpa using HO.out, b4⟩
          · go_wp2
            go_ret2
            exact ⟨_, rfl, by first | exact OwnY.nil _ _ _ | (rw [if_neg hy]; exact OwnY.nil _ _ _), b4⟩
        · clear hnil
          go_enter Try.func23, Try.ntmps23
          go_wp2_with fail
          refine C1.out.mono ?_
          rintro e w1 ⟨rfl, b1⟩
          go_wp2_with fail
          refine (HLY.out w1 b1).mono ?_
          rintro e w2 ⟨rfl, o2, b2⟩
          have b12 : Below w1.heap.size w1 w2 := ((Below.refl _ _).alloc (Nat.le_refl _) _).trans (b2.mono (Nat.le_succ _))
          go_wp2_with fail
          refine (HC2.out w2 _ _ (o2.sl' kE)).mono ?_
          rintro e w3 ⟨rfl, b3⟩
          have z1 := b1.size
          have b4 : Below w.heap.size w w3 := (b1.trans (b12.mono z1)).trans (b3.mono (by have := b12.size; omega))
          have HO := hide ((o2.grow b3).low (show w.heap.size ≤ w1.heap.size + 1 by omega))
          clear o2 b2 b12 HLY HC2 C1 b1 b3
          by_cases hy : y = 0
          · subst hy
            go_wp2
            go_ret2
            exact ⟨_, rfl, by simpa using HO.out, b4⟩
          · go_wp2
            go_ret2
            exact ⟨_, rfl, by first | exact OwnY.nil _ _ _ | (rw [if_neg hy]; exact OwnY.nil _ _ _), b4⟩
  · have e1 : Hid (spE L room at_ T = (chk L room).1) := by show _ = _; simp [spE, hx]
    have e2 : Hid (spL L room at_ T = []) := by show _ = _; simp [spL, e1.out, hx]
    rw [e1.out, e2.out]
    clear e1 e2 hz
    generalize chk L room = Y at *
    obtain ⟨y, y2⟩ := Y
    dsimp only at *
    go_enter Try.func23, Try.ntmps23
    go_wp2_with (go_at_call 24; refine C1.out.mono ?_; rintro e w1 ⟨rfl, b1⟩)
    go_ret2
    exact ⟨_, rfl, OwnY.nil _ _ _, b1⟩

end Go.Proofs.Ytolnkoneilipeaa

namespace Go.Proofs.Ytolnkoneilipeaa
open Go.RowKit Go.Maps
set_option linter.unusedVariables false
set_option linter.unusedSimpArgs false

set_option maxRecDepth 100000 in
set_option maxHeartbeats 1000000 in
theorem appendO_any (L : List En) (x : En) (a : Option Addr) (n c : Nat) (room : Int) (w : World) (h : SlY yE w a n c L) (hf : ∀ e ∈ L, e.fits) (hx : x.fits) (hb : n * 48 ≤ 140737488355328) :
    Calls Try.prog 18 #[.slice a n c, .int .i64 room, .agg #[.int .i64 x.c, .int .i64 x.n, .int .i64 x.o.k, .int .i64 x.o.s, .string x.o.v]] w fun e w' => ∃ v, e = .returned (.tuple #[v, .int .i64 (spE L room ((L.length : Int) + 1) [x])]) ∧ OwnY yE w.heap.size w' v (spL L room ((L.length : Int) + 1) [x]) ∧ Below w.heap.size w w' := by
  have hln := h.len
  have hcp := h.cap
  have hmx := h.max
  unfold maxLen at hmx
  have HS := hide h
  have HC : Hid (∀ (w2 : World), Below w.heap.size w w2 → Calls Try.prog 23 #[.slice a n c, .int .i64 room, .int .i64 ((n : Int) + 1), .slice (some ⟨w2.heap.size, 0, none⟩) 1 1] (w2.alloc (.cells #[.int .i64 x.c, .int .i64 x.n, .int .i64 x.o.k, .int .i64 x.o.s, .string x.o.v] 40)) fun e w' => ∃ v, e = .returned (.tuple #[v, .int .i64 (spE L room ((n : Int) + 1) [x])]) ∧ OwnY yE (w2.heap.size + 1) w' v (spL L room ((n : Int) + 1) [x]) ∧ Below (w2.heap.size + 1) (w2.alloc (.cells #[.int .i64 x.c, .int .i64 x.n, .int .i64 x.o.k, .int .i64 x.o.s, .string x.o.v] 40)) w') := fun w2 hw2 => by
    have hsb : SlY yE (w2.alloc (.cells #[.int .i64 x.c, .int .i64 x.n, .int .i64 x.o.k, .int .i64 x.o.s, .string x.o.v] 40)) (some ⟨w2.heap.size, 0, none⟩) 1 1 [x] := sl_box (Y := yE) w2 x 40
    have hal : Below w2.heap.size w2 (w2.alloc (.cells #[.int .i64 x.c, .int .i64 x.n, .int .i64 x.o.k, .int .i64 x.o.s, .string x.o.v] 40)) := (Below.refl _ _).alloc (Nat.le_refl _) _
    have hsz : (w2.alloc (.cells #[.int .i64 x.c, .int .i64 x.n, .int .i64 x.o.k, .int .i64 x.o.s, .string x.o.v] 40)).heap.size = w2.heap.size + 1 := by simp
    generalize w2.alloc (.cells #[.int .i64 x.c, .int .i64 x.n, .int .i64 x.o.k, .int .i64 x.o.s, .string x.o.v] 40) = WA at *
    have hfx : ∀ e ∈ [x], e.fits := fun e he => by simp at he; rw [he]; exact hx
    have := spliceO_any L [x] a (some ⟨w2.heap.size, 0, none⟩) n c 1 1 room ((n : Int) + 1) WA ((HS.out.later hw2).later hal) hsb hf hfx (by omega)
    rw [hsz] at this
    exact this
  clear h hf hx HS
  rw [hln]
  generalize spE L room ((n : Int) + 1) [x] = E at *
  generalize spL L room ((n : Int) + 1) [x] = Z at *
  obtain ⟨xc, xn, ⟨ok, os, ov⟩⟩ := x
  dsimp only at *
  obtain ⟨WB, hWB⟩ : ∃ WB, w.alloc (.cells #[.int .i64 xc, .int .i64 xn, .int .i64 ok, .int .i64 os, .string ov] 40) = WB := ⟨_, rfl⟩
  have bB : Below w.heap.size w WB := by rw [← hWB]; exact (Below.refl _ _).alloc (Nat.le_refl _) _
  have zB : Hid (WB.heap.size = w.heap.size + 1) := by show _ = _; rw [← hWB]; simp
  have HW := hide hWB
  clear hWB
  go_enter Try.func18, Try.ntmps18
  go_wp2_with fail
  rw [HW.out, ← zB.out]
  refine (HC.out WB bB).mono ?_
  rintro e w2 ⟨v, rfl, o2, b2⟩
  have b3 : Below w.heap.size w w2 := (bB.trans ((Below.refl _ _).alloc (by have := zB.out; omega) _)).trans (b2.mono (by have := zB.out; omega))
  have o3 : OwnY yE w.heap.size w2 v Z := o2.low (by have := zB.out; omega)
  have HO := hide o3
  obtain ⟨p, q, hv, _⟩ := o3.form
  clear o3 o2 b2 HC HW
  generalize Z.length = zl at hv
  subst hv
  go_wp2
  go_ret2
  exact ⟨_, rfl, HO.out, b3⟩

end Go.Proofs.Ytolnkoneilipeaa
