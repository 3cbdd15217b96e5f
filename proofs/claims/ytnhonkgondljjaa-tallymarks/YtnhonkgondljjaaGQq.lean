import Derived.Test.YtnhonkgondljjaaQl
import Derived.Deep.RegionHeld3
import Derived.Test.YtnhonkgondljjaaQm
import Derived.Test.YtnhonkgondljjaaQk
import Derived.Test.YtnhonkgondljjaaQa
import Derived.Test.YtnhonkgondljjaaHc
import Derived.Test.YtnhonkgondljjaaSq
import Derived.Test.YtnhonkgondljjaaQb
namespace Go.Proofs.Ytnhonkgondljjaa
open Go.RowKit Go.Maps
open Classical
set_option linter.unusedVariables false
set_option linter.unusedSimpArgs false

/-- The list behind j turns of the document's insertion. -/
def insJ (L : List Mk) (x : Mk) (b : Bool) (j : Nat) : List Mk := if b = true then L.take (Mk.at_ L x) ++ x :: (L.take j).drop (Mk.at_ L x) else L.take j
/-- What the document knows behind j turns. -/
def InsI (L : List Mk) (x : Mk) (b : Bool) (j : Nat) : Prop := if b = true then Mk.at_ L x < j else ∀ (i : Nat) (y : Mk), i < j → L[i]? = some y → ¬ x.n < y.n
theorem at_first {L : List Mk} {x y : Mk} {j : Nat} (h : InsI L x false j) (hy : L[j]? = some y) (hx : x.n < y.n) : Mk.at_ L x = j := by
  have h : ∀ (i : Nat) (y : Mk), i < j → L[i]? = some y → ¬ x.n < y.n := h
  unfold Mk.at_
  obtain ⟨hj, e⟩ := List.getElem?_eq_some_iff.1 hy
  have : L.findIdx? (fun y => decide (x.n < y.n)) = some j := by
    rw [List.findIdx?_eq_some_iff_getElem]
    refine ⟨hj, by rw [e]; simpa using hx, fun i hi => ?_⟩
    have := h i _ hi (List.getElem?_eq_getElem (by omega))
    simpa using this
  rw [this]
  rfl
theorem at_none {L : List Mk} {x : Mk} (h : InsI L x false L.length) : Mk.at_ L x = L.length := by
  have h : ∀ (i : Nat) (y : Mk), i < L.length → L[i]? = some y → ¬ x.n < y.n := h
  unfold Mk.at_
  have : L.findIdx? (fun y => decide (x.n < y.n)) = none := by
    rw [List.findIdx?_eq_none_iff]
    intro y hy
    obtain ⟨i, hi, rfl⟩ := List.mem_iff_getElem.1 hy
    have := h i _ hi (List.getElem?_eq_getElem hi)
    simpa using this
  rw [this]
  rfl
theorem insJ_end {L : List Mk} {x : Mk} : insJ L x true L.length = Mk.ins L x := by
  unfold insJ Mk.ins
  rw [if_pos rfl, List.take_length]
theorem insJ_none {L : List Mk} {x : Mk} (h : InsI L x false L.length) : insJ L x false L.length ++ [x] = Mk.ins L x := by
  unfold insJ Mk.ins
  rw [if_neg (by simp), at_none h, List.take_length, List.drop_length]
theorem insJ_same {L : List Mk} {x y : Mk} {j : Nat} (hy : L[j]? = some y) : insJ L x false j ++ [y] = insJ L x false (j + 1) := by
  unfold insJ
  rw [if_neg (by simp), if_neg (by simp), List.take_add_one, hy]
  rfl
theorem insJ_on {L : List Mk} {x y : Mk} {j : Nat} (h : InsI L x true j) (hy : L[j]? = some y) : insJ L x true j ++ [y] = insJ L x true (j + 1) := by
  have h : Mk.at_ L x < j := h
  obtain ⟨hj, _⟩ := List.getElem?_eq_some_iff.1 hy
  unfold insJ
  rw [if_pos rfl, if_pos rfl, List.take_add_one, hy, Option.toList_some, List.drop_append_of_le_length (by rw [List.length_take]; omega)]
  simp
theorem insJ_turn {L : List Mk} {x y : Mk} {j : Nat} (h : InsI L x false j) (hy : L[j]? = some y) (hx : x.n < y.n) : insJ L x false j ++ [x] ++ [y] = insJ L x true (j + 1) := by
  have e := at_first h hy hx
  obtain ⟨hj, _⟩ := List.getElem?_eq_some_iff.1 hy
  unfold insJ
  rw [if_neg (by simp), if_pos rfl, e, List.take_add_one, hy, Option.toList_some, List.drop_left' (by rw [List.length_take]; omega)]
  simp
theorem InsI_same {L : List Mk} {x y : Mk} {j : Nat} (h : InsI L x false j) (hy : L[j]? = some y) (hx : ¬ x.n < y.n) : InsI L x false (j + 1) := by
  have h : ∀ (i : Nat) (y : Mk), i < j → L[i]? = some y → ¬ x.n < y.n := h
  show ∀ (i : Nat) (y : Mk), i < j + 1 → L[i]? = some y → ¬ x.n < y.n
  intro i z hi hz
  by_cases e : i = j
  · subst e
    rw [hy] at hz
    cases hz
    exact hx
  · exact h i z (by omega) hz
theorem InsI_on {L : List Mk} {x : Mk} {j : Nat} (h : InsI L x true j) : InsI L x true (j + 1) := by
  have h : Mk.at_ L x < j := h
  show Mk.at_ L x < j + 1
  omega
theorem InsI_turn {L : List Mk} {x y : Mk} {j : Nat} (h : InsI L x false j) (hy : L[j]? = some y) (hx : x.n < y.n) : InsI L x true (j + 1) := by
  show Mk.at_ L x < j + 1
  rw [at_first h hy hx]
  omega
theorem insJ_len (L : List Mk) (x : Mk) (b : Bool) (j : Nat) (n : Nat) (hn : L.length = n) (hj : j ≤ n) (h : InsI L x b j) : (insJ L x b j).length ≤ j + 1 := by
  unfold insJ
  cases b with
  | true =>
    have h : Mk.at_ L x < j := h
    rw [if_pos rfl]
    simp
    omega
  | false =>
    rw [if_neg (by simp)]
    simp
    omega
/-- What stands in the list by a put, where the voter is found at j. -/
theorem put_found {L : List Mk} {x y : Mk} {j : Nat} (h : ∀ (i : Nat) (z : Mk), i < j → L[i]? = some z → z.n ≠ x.n) (hy : L[j]? = some y) (hx : y.n = x.n) : Mk.put L x = if Mk.rep x y = true then L.set j x else L := by
  unfold Mk.put
  obtain ⟨hj, e⟩ := List.getElem?_eq_some_iff.1 hy
  have : L.findIdx? (fun y => decide (y.n = x.n)) = some j := by
    rw [List.findIdx?_eq_some_iff_getElem]
    refine ⟨hj, by rw [e]; simpa using hx, fun i hi => ?_⟩
    have := h i _ hi (List.getElem?_eq_getElem (by omega))
    simpa using this
  rw [this]
  dsimp only
  rw [List.getD_eq_getElem?_getD, hy, Option.getD_some]
theorem put_new {L : List Mk} {x : Mk} (h : ∀ (i : Nat) (z : Mk), i < L.length → L[i]? = some z → z.n ≠ x.n) : Mk.put L x = Mk.ins L x := by
  unfold Mk.put
  have : L.findIdx? (fun y => decide (y.n = x.n)) = none := by
    rw [List.findIdx?_eq_none_iff]
    intro y hy
    obtain ⟨i, hi, rfl⟩ := List.mem_iff_getElem.1 hy
    have := h i _ hi (List.getElem?_eq_getElem hi)
    simpa using this
  rw [this]

end Go.Proofs.Ytnhonkgondljjaa

namespace Go.Proofs.Ytnhonkgondljjaa
open Go.RowKit Go.Maps
set_option linter.unusedVariables false
set_option linter.unusedSimpArgs false

set_option maxRecDepth 100000 in
set_option maxHeartbeats 2000000 in
/-- The document's PutMark. -/
theorem refputmark_any (L : List Mk) (x : Mk) (a : Option Addr) (n k : Nat) (w : World) (h : SlY yMkA w a n k L) (hm : (n + 3) * 24 ≤ 140737488355328) :
    Calls Try.prog 19 #[.slice a n k, .agg #[.int .i64 x.n, .int .u64 x.h, .int .u64 x.l]] w fun e w' => ∃ v, e = .returned v ∧ OwnY yMkA w.heap.size w' v (Mk.put L x) ∧ Below w.heap.size w w' := by
  have hmx := h.max
  have hcp := h.cap
  have hln := h.len
  unfold maxLen at hmx
  have H := hide h
  have HN := hide hln
  clear h hln
  have hb1 : ∀ i, i ≤ n → i + 2 + 1 ≤ maxLen := fun i hi => by unfold maxLen; omega
  have hb2 : ∀ i, i ≤ n → (i + 3) * 24 ≤ 140737488355328 := fun i hi => Nat.le_trans (Nat.mul_le_mul_right 24 (Nat.add_le_add_right hi 3)) hm
  have HM := hide hm
  have hm1 : n * 24 ≤ 140737488355328 := Nat.le_trans (Nat.mul_le_mul_right 24 (Nat.le_add_right n 3)) hm
  clear hm
  have HB1 := hide hb1
  have HB2 := hide hb2
  clear hb1 hb2
  have B0 : Hid (Below w.heap.size w (w.alloc (.cells #[.int .i64 x.n, .int .u64 x.h, .int .u64 x.l] 29))) := (Below.refl _ w).alloc (Nat.le_refl _) _
  have hwz : Hid ((w.alloc (.cells #[.int .i64 x.n, .int .u64 x.h, .int .u64 x.l] 29)).heap.size = w.heap.size + 1) := by show _ = _; simp
  have KX : Hid (∀ v, Below (w.heap.size + 1) (w.alloc (.cells #[.int .i64 x.n, .int .u64 x.h, .int .u64 x.l] 29)) v → v.cell? ⟨w.heap.size, 0, none⟩ = some (.int .i64 x.n) ∧ v.cell? ⟨w.heap.size, 1, none⟩ = some (.int .u64 x.h) ∧ v.cell? ⟨w.heap.size, 2, none⟩ = some (.int .u64 x.l)) := fun v hv =>
    ⟨(hv.cell (p := ⟨w.heap.size, 0, none⟩) (by simp)).trans (by simp), (hv.cell (p := ⟨w.heap.size, 1, none⟩) (by simp)).trans (by simp), (hv.cell (p := ⟨w.heap.size, 2, none⟩) (by simp)).trans (by simp)⟩
  obtain ⟨PL, HPL⟩ : ∃ PL, Hid (PL = Mk.put L x) := ⟨_, rfl⟩
  rw [← HPL.out]
  go_enter Try.func19, Try.ntmps19
  go_wp2
  generalize hw0 : w.alloc (.cells #[.int .i64 x.n, .int .u64 x.h, .int .u64 x.l] 29) = w0 at *
  go_loopw [6, 5] (fun i v wr => ∃ (j d : Nat), i = .int .i64 (j : Int) ∧ j ≤ n ∧ v = .slice none 0 0 ∧ Hid (∀ (i : Nat) (z : Mk), i < j → L[i]? = some z → z.n ≠ x.n) ∧ wr = w0.drewN d) (fun i _ _ => n - (intOf i).toNat)
  case atStart => exact ⟨0, 0, rfl, Nat.zero_le _, rfl, fun i z h => absurd h (Nat.not_lt_zero _), rfl⟩
  case round =>
    obtain ⟨j, d, rfl, hj, rfl, hno, rfl⟩ := hrel
    by_cases hlt : j < n
    · have hjl : j < L.length := by rw [HN.out]; exact hlt
      have hg : L[j]? = some L[j] := List.getElem?_eq_getElem hjl
      have hnext : Hid (L[j].n ≠ x.n → ∀ (i : Nat) (z : Mk), i < j + 1 → L[i]? = some z → z.n ≠ x.n) := fun hne i z hi hz => by
        by_cases e : i = j
        · subst e
          rw [hg] at hz
          cases hz
          exact hne
        · exact hno.out i z (by omega) hz
      have hfound : Hid (L[j].n = x.n → PL = if Mk.rep x L[j] = true then L.set j x else L) := fun he => by rw [HPL.out]; exact put_found hno.out hg he
      obtain ⟨q, o, ea, hq, _⟩ := (H.out.later (belNN B0.out d)).MkA hg
      have KY : Hid (∀ v, Below w.heap.size w v → v.cell? ⟨q, o + j * 3, none⟩ = some (.int .i64 L[j].n) ∧ v.cell? ⟨q, o + j * 3 + 1, none⟩ = some (.int .u64 L[j].h) ∧ v.cell? ⟨q, o + j * 3 + 2, none⟩ = some (.int .u64 L[j].l)) := fun v hv => by
        obtain ⟨q', o', ea', _, y0, y1, y2⟩ := (H.out.later hv).MkA hg
        rw [ea] at ea'
        cases ea'
        exact ⟨y0, y1, y2⟩
      cases ea
      have hget : Hid (L[j]? = some L[j]) := hg
      clear hg hno
      generalize L[j] = y at *
      have s0 : (w0.drewN d).drew.cell? ⟨q, o + j * 3, none⟩ = some (.int .i64 y.n) ∧ (w0.drewN d).drew.cell? ⟨w.heap.size, 0, none⟩ = some (.int .i64 x.n) := ⟨(KY.out _ (belNN B0.out (d + 1))).1, (KX.out _ (belNN (Below.refl _ w0) (d + 1))).1⟩
      go_wp2_with fail
      go_region_held3 (fun v => v.cell? ⟨q, o + j * 3, none⟩ = some (.int .i64 y.n) ∧ v.cell? ⟨w.heap.size, 0, none⟩ = some (.int .i64 x.n)) (with_reducible assumption) (fail)
      by_cases he : y.n = x.n
      · have heb : (y.n == x.n) = true := by simp [he]
        have hF := hide (hfound.out he)
        clear he hfound hnext s0
        have X0 : Hid (Below (w.heap.size + 1) w0 (w0.drewN d).drew) := (belNN (Below.refl _ _) d).drew
        generalize (w0.drewN d).drew = wd at *
        have zd : w.heap.size + 1 ≤ wd.heap.size := by have := X0.out.size; rwa [hwz.out] at this
        have HLd := hide (H.out.later (B0.out.trans (X0.out.mono (by omega))))
        go_upto_region 6 with fail
        go_wp2_with (at_builtin; go_must (refine appY kMkA _ rfl (.tmp 23) (.tmp 24) rfl (w.heap.size + 1) [] _ rfl (some ⟨q, o, none⟩) n k rfl L HLd.out (OwnY.nil _ _ _) zd (by unfold maxLen; simp; omega) (by show (0 + n) * 24 ≤ 140737488355328; rw [Nat.zero_add]; exact hm1) ?_))
        intro v1 w1 o1 g1 e1
        have X1 := hide (OwnY.grown (OwnY.nil yMkA (w.heap.size + 1) _) X0.out g1 zd)
        have O1 : Hid (OwnY yMkA (w.heap.size + 1) w1 v1 L) := o1
        obtain ⟨a1, c1, rfl, s1, hb1⟩ := O1.out.sl kMkA
        have hL0 : L ≠ [] := by rintro rfl; simp at hjl
        obtain ⟨g, rfl⟩ : ∃ g, a1 = some ⟨g, 0, none⟩ := by
          cases a1 with
          | none => exact absurd (s1.nil rfl).1 (by simpa using hL0)
          | some z => obtain ⟨g, rfl, _⟩ := hb1 z rfl; exact ⟨g, rfl⟩
        have hgB : w.heap.size + 1 ≤ g := by obtain ⟨g', e, h1, _⟩ := hb1 _ rfl; cases e; exact h1
        have hc1 := s1.cap
        rw [HN.out] at hc1 O1 ⊢
        clear o1 g1 e1 s1 hb1 HLd
        have ct := hide (fun W => reftakes_any x.h x.l y.h y.l false W)
        have HR : Hid ((decide (0 < cmpD x.h x.l y.h y.l) || (decide (cmpD x.h x.l y.h y.l = 0) && false)) = Mk.rep x y) := rfl
        rw [HR.out] at ct
        generalize Mk.rep x y = T at *
        have K1 : Hid (∀ v, Below (w.heap.size + 1) w0 v → (v.cell? ⟨w.heap.size, 1, none⟩ = some (.int .u64 x.h) ∧ v.cell? ⟨w.heap.size, 2, none⟩ = some (.int .u64 x.l)) ∧ v.cell? ⟨q, o + j * 3 + 1, none⟩ = some (.int .u64 y.h) ∧ v.cell? ⟨q, o + j * 3 + 2, none⟩ = some (.int .u64 y.l)) := fun v hv => ⟨(KX.out v hv).2, (KY.out v (B0.out.trans (hv.mono (by omega)))).2⟩
        have s1 := K1.out _ X1.out.drew
        try dsimp only
        go_wp2_with fail
        go_region_held3 (fun v => (v.cell? ⟨w.heap.size, 1, none⟩ = some (.int .u64 x.h) ∧ v.cell? ⟨w.heap.size, 2, none⟩ = some (.int .u64 x.l)) ∧ v.cell? ⟨q, o + j * 3 + 1, none⟩ = some (.int .u64 y.h) ∧ v.cell? ⟨q, o + j * 3 + 2, none⟩ = some (.int .u64 y.l)) (with_reducible assumption) (first
          | (go_at_call 54; refine (ct.out _).mono ?_; rintro e w2 ⟨rfl, b2⟩; have C2 := hide ((Below.refl w1.heap.size w1).drew.trans b2); have X2 := hide (X1.out.trans (C2.out.mono (by have := X1.out.size; rwa [hwz.out] at this))); have s2 := K1.out w2 X2.out; clear b2))
        have O2 := hide (O1.out.grow C2.out)
        obtain ⟨x0, x1, x2⟩ := KX.out w2 X2.out
        clear s2
        cases T with
        | true =>
          have hP : Hid (PL = L.set j x) := by show _ = _; rw [hF.out, if_pos rfl]
          go_wp2_with (refine storeY kMkA _ rfl 29 (.tmp 37) (.tmp 36) rfl (w.heap.size + 1) g n c1 L j 0 y x _ rfl rfl hget.out (by kernel_rfl) (by exact (by decide : 3 ≤ 3)) rfl O2.out ?_)
          intro w3 o3 u3 z3
          have O3 : Hid (OwnY yMkA (w.heap.size + 1) w3 (.slice (some ⟨g, 0, none⟩) n c1) PL) := by show OwnY _ _ _ _ _; rw [hP.out]; exact o3
          have X3 := hide (X2.out.trans (u3.below (by have := X2.out.size; rwa [hwz.out] at this) (fun k e => by subst e; exact hgB)))
          clear o3 u3
          go_wp2
          go_ret
          exact ⟨_, rfl, O3.out.low (by omega), (B0.out.trans (X3.out.mono (by omega)))⟩
        | false =>
          have O3 : Hid (OwnY yMkA (w.heap.size + 1) w2 (.slice (some ⟨g, 0, none⟩) n c1) PL) := by show OwnY _ _ _ _ _; rw [hF.out, if_neg (by simp)]; exact O2.out
          go_wp2
          go_ret
          exact ⟨_, rfl, O3.out.low (by omega), (B0.out.trans (X2.out.mono (by omega)))⟩
      · have heb : (y.n == x.n) = false := by simp [he]
        have hN := hide (hnext.out he)
        clear hfound hnext
        go_wp2
        go_round
        case rel => exact ⟨j + 1, d + 1, by go_num, by omega, rfl, hN, rfl⟩
        case measure => first | (simp [intOf]; done) | (simp [intOf]; omega)
    · obtain rfl : j = n := by omega
      have hnew : Hid (PL = Mk.ins L x) := by show _ = _; rw [HPL.out]; exact put_new (by rw [HN.out]; exact hno.out)
      clear hno HPL
      go_wp2
      have X0 : Hid (Below (w.heap.size + 1) w0 (w0.drewN d)) := belNN (Below.refl _ _) d
      generalize w0.drewN d = wd at *
      go_loopw [8, 7, 5] (fun i s v wr => ∃ (i2 : Nat) (b : Bool) (v5 : Value), i = .int .i64 (i2 : Int) ∧ i2 ≤ j ∧ s = .bool b ∧ v = v5 ∧ Hid (InsI L x b i2) ∧ Hid (OwnY yMkA (w.heap.size + 1) wr v5 (insJ L x b i2)) ∧ Hid (Below (w.heap.size + 1) w0 wr)) (fun i _ _ _ => j - (intOf i).toNat)
      case atStart => exact ⟨0, false, _, rfl, Nat.zero_le _, rfl, rfl, (show InsI L x false 0 from fun i z h => absurd h (Nat.not_lt_zero _)), (show OwnY yMkA (w.heap.size + 1) wd (.slice none 0 0) (insJ L x false 0) from OwnY.nil _ _ _), X0⟩
      case round =>
        obtain ⟨i2, b, v5, rfl, hi2, rfl, hv5, hI, hO, hX⟩ := hrel
        have hv5 := hv5.symm
        subst hv5
        have hlen : Hid ((insJ L x b i2).length ≤ i2 + 1) := insJ_len L x b i2 j HN.out hi2 hI.out
        have zr1 : w.heap.size + 1 ≤ wr.heap.size := by have := hX.out.size; rwa [hwz.out] at this
        have hbig1 := HB1.out i2 hi2
        have hbig2 := HB2.out i2 hi2
        by_cases hlt2 : i2 < j
        · have hjl : i2 < L.length := by rw [HN.out]; exact hlt2
          have hg : L[i2]? = some L[i2] := List.getElem?_eq_getElem hjl
          obtain ⟨q, o, ea, hq, _⟩ := (H.out.later (B0.out.trans (hX.out.mono (by omega)))).MkA hg
          have KY : Hid (∀ v, Below (w.heap.size + 1) w0 v → v.cell? ⟨q, o + i2 * 3, none⟩ = some (.int .i64 L[i2].n) ∧ v.cell? ⟨q, o + i2 * 3 + 1, none⟩ = some (.int .u64 L[i2].h) ∧ v.cell? ⟨q, o + i2 * 3 + 2, none⟩ = some (.int .u64 L[i2].l)) := fun v hv => by
            obtain ⟨q', o', ea', _, y0, y1, y2⟩ := (H.out.later (B0.out.trans (hv.mono (by omega)))).MkA hg
            rw [ea] at ea'
            cases ea'
            exact ⟨y0, y1, y2⟩
          cases ea
          have hget : Hid (L[i2]? = some L[i2]) := hg
          clear hg
          generalize L[i2] = y at *
          cases b with
          | true =>
            have I2 := hide (InsI_on hI.out)
            have hstep := hide (insJ_on hI.out hget.out)
            generalize insJ L x true i2 = LJ at *
            go_wp2_with fail
            refine region_q9 (C := fun v => Below wr.heap.size wr v) (by kernel_rfl) (by kernel_rfl) (Below.refl _ _).drew ?_
            refine wqv (u := .bool true) (by kernel_rfl) (fun v hv => by kernel_rfl) ?_
            simp only [Act.put, List.setIfInBounds_toArray, List.set_cons_zero, List.set_cons_succ]
            refine wqv (u := .bool false) (by kernel_rfl) (fun v hv => by kernel_rfl) ?_
            simp only [Act.put, List.setIfInBounds_toArray, List.set_cons_zero, List.set_cons_succ]
            refine wqv (u := .bool false) (by kernel_rfl) (fun v hv => by kernel_rfl) ?_
            simp only [Act.put, List.setIfInBounds_toArray, List.set_cons_zero, List.set_cons_succ]
            refine wqskip (by kernel_rfl) ?_
            simp only [Act.put, List.setIfInBounds_toArray, List.set_cons_zero, List.set_cons_succ]
            refine wqskip (by kernel_rfl) ?_
            simp only [Act.put, List.setIfInBounds_toArray, List.set_cons_zero, List.set_cons_succ]
            refine wqskip (by kernel_rfl) ?_
            simp only [Act.put, List.setIfInBounds_toArray, List.set_cons_zero, List.set_cons_succ]
            refine wqskip (by kernel_rfl) ?_
            simp only [Act.put, List.setIfInBounds_toArray, List.set_cons_zero, List.set_cons_succ]
            refine wqskip (by kernel_rfl) ?_
            simp only [Act.put, List.setIfInBounds_toArray, List.set_cons_zero, List.set_cons_succ]
            refine wqskip (by kernel_rfl) ?_
            simp only [Act.put, List.setIfInBounds_toArray, List.set_cons_zero, List.set_cons_succ]
            refine wqskip (by kernel_rfl) ?_
            simp only [Act.put, List.setIfInBounds_toArray, List.set_cons_zero, List.set_cons_succ]
            refine wqskip (by kernel_rfl) ?_
            simp only [Act.put, List.setIfInBounds_toArray, List.set_cons_zero, List.set_cons_succ]
            refine wqv (u := .bool false) (by kernel_rfl) (fun v hv => by kernel_rfl) ?_
            simp only [Act.put, List.setIfInBounds_toArray, List.set_cons_zero, List.set_cons_succ]
            refine wqnil (fun v hv => ?_)
            have X2 := hide (hX.out.trans (hv.mono zr1))
            have O2 := hide (hO.out.grow hv)
            clear hv
            obtain ⟨y0, y1, y2⟩ := KY.out v X2.out
            have SB : Hid (SlY yMkA (v.alloc (.cells #[.int .i64 y.n, .int .u64 y.h, .int .u64 y.l] 29)) (some ⟨v.heap.size, 0, none⟩) 1 1 [y]) := sl_box (Y := yMkA) v y 29
            have DA := hide (X2.out.alloc (by have := X2.out.size; rwa [hwz.out] at this) (.cells #[.int .i64 y.n, .int .u64 y.h, .int .u64 y.l] 29))
            have OA := hide (O2.out.alloc (.cells #[.int .i64 y.n, .int .u64 y.h, .int .u64 y.l] 29))
            have za : w.heap.size + 1 ≤ (v.alloc (.cells #[.int .i64 y.n, .int .u64 y.h, .int .u64 y.l] 29)).heap.size := by have := DA.out.size; rwa [hwz.out] at this
            have hlx : (LJ).length ≤ i2 + 2 := Nat.le_succ_of_le hlen.out
            have hma : Hid ((LJ).length + 1 ≤ maxLen) := Nat.le_trans (Nat.add_le_add_right hlx 1) hbig1
            have hmb : Hid (((LJ).length + 1) * yMkA.by_ ≤ 140737488355328) := by show ((LJ).length + 1) * 24 ≤ 140737488355328; exact Nat.le_trans (Nat.mul_le_mul_right 24 (Nat.add_le_add_right hlx 1)) hbig2
            clear hlx
            go_upto_region 17 with fail
            go_wp2_with (at_builtin; go_must (refine appY kMkA _ rfl (.tmp 61) (.tmp 66) rfl (w.heap.size + 1) (LJ) _ rfl (some ⟨v.heap.size, 0, none⟩) 1 1 rfl [y] SB.out OA.out za hma.out hmb.out ?_))
            intro v6 w6 oo gg ee
            have X6 := hide (OA.out.grown DA.out gg za)
            have O6 := hide oo
            clear oo gg ee SB DA OA za hma hmb
            try dsimp only
            rw [hstep.out] at O6
            go_wp2
            go_round
            case rel => exact ⟨i2 + 1, true, v6, by go_num, by omega, rfl, rfl, I2, O6, X6⟩
            case measure => first | (simp [intOf]; done) | (simp [intOf]; omega)
          | false =>
            have s0 : wr.drew.cell? ⟨q, o + i2 * 3, none⟩ = some (.int .i64 y.n) ∧ wr.drew.cell? ⟨w.heap.size, 0, none⟩ = some (.int .i64 x.n) := ⟨(KY.out _ hX.out.drew).1, (KX.out _ hX.out.drew).1⟩
            go_wp2_with fail
            go_region_held3 (fun v => v.cell? ⟨q, o + i2 * 3, none⟩ = some (.int .i64 y.n) ∧ v.cell? ⟨w.heap.size, 0, none⟩ = some (.int .i64 x.n)) (with_reducible assumption) (fail)
            have X2 := hide hX.out.drew
            have O2 := hide hO.out.drew
            clear s0
            generalize wr.drew = w2 at *
            obtain ⟨y0, y1, y2⟩ := KY.out w2 X2.out
            obtain ⟨x0, x1, x2⟩ := KX.out w2 X2.out
            by_cases hc : x.n < y.n
            · have I2 := hide (InsI_turn hI.out hget.out hc)
              have hstep := hide (insJ_turn hI.out hget.out hc)
              generalize insJ L x false i2 = LJ at *
              have SB : Hid (SlY yMkA (w2.alloc (.cells #[.int .i64 x.n, .int .u64 x.h, .int .u64 x.l] 29)) (some ⟨w2.heap.size, 0, none⟩) 1 1 [x]) := sl_box (Y := yMkA) w2 x 29
              have DA := hide (X2.out.alloc (by have := X2.out.size; rwa [hwz.out] at this) (.cells #[.int .i64 x.n, .int .u64 x.h, .int .u64 x.l] 29))
              have OA := hide (O2.out.alloc (.cells #[.int .i64 x.n, .int .u64 x.h, .int .u64 x.l] 29))
              have za : w.heap.size + 1 ≤ (w2.alloc (.cells #[.int .i64 x.n, .int .u64 x.h, .int .u64 x.l] 29)).heap.size := by have := DA.out.size; rwa [hwz.out] at this
              have hlx : (LJ).length ≤ i2 + 2 := Nat.le_succ_of_le hlen.out
              have hma : Hid ((LJ).length + 1 ≤ maxLen) := Nat.le_trans (Nat.add_le_add_right hlx 1) hbig1
              have hmb : Hid (((LJ).length + 1) * yMkA.by_ ≤ 140737488355328) := by show ((LJ).length + 1) * 24 ≤ 140737488355328; exact Nat.le_trans (Nat.mul_le_mul_right 24 (Nat.add_le_add_right hlx 1)) hbig2
              clear hlx
              go_upto_region 15 with fail
              go_wp2_with (at_builtin; go_must (refine appY kMkA _ rfl (.tmp 57) (.tmp 59) rfl (w.heap.size + 1) (LJ) _ rfl (some ⟨w2.heap.size, 0, none⟩) 1 1 rfl [x] SB.out OA.out za hma.out hmb.out ?_))
              intro v6 w6 oo gg ee
              have X6 := hide (OA.out.grown DA.out gg za)
              have O6 := hide oo
              clear oo gg ee SB DA OA za hma hmb
              try dsimp only
              clear y0 y1 y2 x0 x1 x2
              obtain ⟨y0, y1, y2⟩ := KY.out w6 X6.out
              have SB : Hid (SlY yMkA (w6.alloc (.cells #[.int .i64 y.n, .int .u64 y.h, .int .u64 y.l] 29)) (some ⟨w6.heap.size, 0, none⟩) 1 1 [y]) := sl_box (Y := yMkA) w6 y 29
              have DA := hide (X6.out.alloc (by have := X6.out.size; rwa [hwz.out] at this) (.cells #[.int .i64 y.n, .int .u64 y.h, .int .u64 y.l] 29))
              have OA := hide (O6.out.alloc (.cells #[.int .i64 y.n, .int .u64 y.h, .int .u64 y.l] 29))
              have za : w.heap.size + 1 ≤ (w6.alloc (.cells #[.int .i64 y.n, .int .u64 y.h, .int .u64 y.l] 29)).heap.size := by have := DA.out.size; rwa [hwz.out] at this
              have hlx : (LJ ++ [x]).length ≤ i2 + 2 := by rw [List.length_append]; exact Nat.add_le_add_right hlen.out 1
              have hma : Hid ((LJ ++ [x]).length + 1 ≤ maxLen) := Nat.le_trans (Nat.add_le_add_right hlx 1) hbig1
              have hmb : Hid (((LJ ++ [x]).length + 1) * yMkA.by_ ≤ 140737488355328) := by show ((LJ ++ [x]).length + 1) * 24 ≤ 140737488355328; exact Nat.le_trans (Nat.mul_le_mul_right 24 (Nat.add_le_add_right hlx 1)) hbig2
              clear hlx
              go_upto_region 17 with fail
              go_wp2_with (at_builtin; go_must (refine appY kMkA _ rfl (.tmp 61) (.tmp 66) rfl (w.heap.size + 1) (LJ ++ [x]) _ rfl (some ⟨w6.heap.size, 0, none⟩) 1 1 rfl [y] SB.out OA.out za hma.out hmb.out ?_))
              intro v7 w7 oo gg ee
              have X7 := hide (OA.out.grown DA.out gg za)
              have O7 := hide oo
              clear oo gg ee SB DA OA za hma hmb
              try dsimp only
              have O8 : Hid (OwnY yMkA (w.heap.size + 1) w7 v7 (insJ L x true (i2 + 1))) := by show OwnY _ _ _ _ _; rw [← hstep.out, List.append_assoc]; exact O7.out
              go_wp2
              go_round
              case rel => exact ⟨i2 + 1, true, v7, by go_num, by omega, rfl, rfl, I2, O8, X7⟩
              case measure => first | (simp [intOf]; done) | (simp [intOf]; omega)
            · have I2 := hide (InsI_same hI.out hget.out hc)
              have hstep := hide (insJ_same (x := x) hget.out)
              generalize insJ L x false i2 = LJ at *
              have SB : Hid (SlY yMkA (w2.alloc (.cells #[.int .i64 y.n, .int .u64 y.h, .int .u64 y.l] 29)) (some ⟨w2.heap.size, 0, none⟩) 1 1 [y]) := sl_box (Y := yMkA) w2 y 29
              have DA := hide (X2.out.alloc (by have := X2.out.size; rwa [hwz.out] at this) (.cells #[.int .i64 y.n, .int .u64 y.h, .int .u64 y.l] 29))
              have OA := hide (O2.out.alloc (.cells #[.int .i64 y.n, .int .u64 y.h, .int .u64 y.l] 29))
              have za : w.heap.size + 1 ≤ (w2.alloc (.cells #[.int .i64 y.n, .int .u64 y.h, .int .u64 y.l] 29)).heap.size := by have := DA.out.size; rwa [hwz.out] at this
              have hlx : (LJ).length ≤ i2 + 2 := Nat.le_succ_of_le hlen.out
              have hma : Hid ((LJ).length + 1 ≤ maxLen) := Nat.le_trans (Nat.add_le_add_right hlx 1) hbig1
              have hmb : Hid (((LJ).length + 1) * yMkA.by_ ≤ 140737488355328) := by show ((LJ).length + 1) * 24 ≤ 140737488355328; exact Nat.le_trans (Nat.mul_le_mul_right 24 (Nat.add_le_add_right hlx 1)) hbig2
              clear hlx
              go_upto_region 17 with fail
              go_wp2_with (at_builtin; go_must (refine appY kMkA _ rfl (.tmp 61) (.tmp 66) rfl (w.heap.size + 1) (LJ) _ rfl (some ⟨w2.heap.size, 0, none⟩) 1 1 rfl [y] SB.out OA.out za hma.out hmb.out ?_))
              intro v6 w6 oo gg ee
              have X6 := hide (OA.out.grown DA.out gg za)
              have O6 := hide oo
              clear oo gg ee SB DA OA za hma hmb
              try dsimp only
              rw [hstep.out] at O6
              go_wp2
              go_round
              case rel => exact ⟨i2 + 1, false, v6, by go_num, by omega, rfl, rfl, I2, O6, X6⟩
              case measure => first | (simp [intOf]; done) | (simp [intOf]; omega)
        · obtain rfl : i2 = j := by omega
          cases b with
          | true =>
            have O9 : Hid (OwnY yMkA (w.heap.size + 1) wr v5 PL) := by show OwnY _ _ _ _ _; rw [hnew.out, ← insJ_end, HN.out]; exact hO.out
            go_wp2
            go_ret
            exact ⟨_, rfl, O9.out.low (by omega), (B0.out.trans (hX.out.mono (by omega)))⟩
          | false =>
            have hend : Hid (insJ L x false i2 ++ [x] = PL) := by show _ = _; rw [hnew.out, ← insJ_none (by rw [HN.out]; exact hI.out), HN.out]
            generalize insJ L x false i2 = LJ at *
            obtain ⟨x0, x1, x2⟩ := KX.out wr hX.out
            have SB : Hid (SlY yMkA (wr.alloc (.cells #[.int .i64 x.n, .int .u64 x.h, .int .u64 x.l] 29)) (some ⟨wr.heap.size, 0, none⟩) 1 1 [x]) := sl_box (Y := yMkA) wr x 29
            have DA := hide (hX.out.alloc (by have := hX.out.size; rwa [hwz.out] at this) (.cells #[.int .i64 x.n, .int .u64 x.h, .int .u64 x.l] 29))
            have OA := hide (hO.out.alloc (.cells #[.int .i64 x.n, .int .u64 x.h, .int .u64 x.l] 29))
            have za : w.heap.size + 1 ≤ (wr.alloc (.cells #[.int .i64 x.n, .int .u64 x.h, .int .u64 x.l] 29)).heap.size := by have := DA.out.size; rwa [hwz.out] at this
            have hlx : (LJ).length ≤ i2 + 2 := Nat.le_succ_of_le hlen.out
            have hma : Hid ((LJ).length + 1 ≤ maxLen) := Nat.le_trans (Nat.add_le_add_right hlx 1) hbig1
            have hmb : Hid (((LJ).length + 1) * yMkA.by_ ≤ 140737488355328) := by show ((LJ).length + 1) * 24 ≤ 140737488355328; exact Nat.le_trans (Nat.mul_le_mul_right 24 (Nat.add_le_add_right hlx 1)) hbig2
            clear hlx
            go_upto_region 19 with fail
            go_wp2_with (at_builtin; go_must (refine appY kMkA _ rfl (.tmp 70) (.tmp 72) rfl (w.heap.size + 1) (LJ) _ rfl (some ⟨wr.heap.size, 0, none⟩) 1 1 rfl [x] SB.out OA.out za hma.out hmb.out ?_))
            intro v6 w6 oo gg ee
            have X6 := hide (OA.out.grown DA.out gg za)
            have O6 := hide oo
            clear oo gg ee SB DA OA za hma hmb
            try dsimp only
            rw [hend.out] at O6
            go_wp2
            go_ret
            exact ⟨_, rfl, O6.out.low (by omega), (B0.out.trans (X6.out.mono (by omega)))⟩

end Go.Proofs.Ytnhonkgondljjaa

namespace Go.Proofs.Ytnhonkgondljjaa
open Go.RowKit Go.Maps
set_option linter.unusedVariables false
set_option linter.unusedSimpArgs false

set_option maxRecDepth 100000 in
set_option maxHeartbeats 4000000 in
theorem marks_walk (c : Cg) (self : Int) (L : List Mk) (a : Option Addr) (n k : Nat) (x : Mk) (D : List (Int × Int)) (av : Option Addr) (vn vc : Nat) (w : World) (h : SlY yMkA w a n k L) (hD : SlY yD w av vn vc D) (hm : n * 24 ≤ 140737488351232) (hmv : vn * 16 ≤ 140737488351232) :
    Calls Try.prog 3 #[.agg #[.int .i64 c.F, .int .i64 c.R, .int .i64 c.P, .bool c.u], .int .i64 self, .slice a n k, .agg #[.int .i64 x.n, .int .u64 x.h, .int .u64 x.l], .slice av vn vc] w fun e w' => e = .returned (.bool true) ∧ Below w.heap.size w w' := by
  have H := hide h
  have HD := hide hD
  have HN := hide h.len
  clear h hD
  have B0 : Hid (Below w.heap.size w (((w.alloc (.cells #[.int .i64 c.F, .int .i64 c.R, .int .i64 c.P, .bool c.u] 23)).alloc (.cells #[.int .i64 x.n, .int .u64 x.h, .int .u64 x.l] 29)).alloc (.cells #[.slice none 0 0, .slice none 0 0, .slice none 0 0, .slice none 0 0, .slice none 0 0, .slice none 0 0, .slice none 0 0, .slice none 0 0, .slice none 0 0, .slice none 0 0] 38))) := (((Below.refl _ w).alloc (Nat.le_refl _) _).alloc (by simp) _).alloc (by simp; omega) _
  have hwz : Hid ((((w.alloc (.cells #[.int .i64 c.F, .int .i64 c.R, .int .i64 c.P, .bool c.u] 23)).alloc (.cells #[.int .i64 x.n, .int .u64 x.h, .int .u64 x.l] 29)).alloc (.cells #[.slice none 0 0, .slice none 0 0, .slice none 0 0, .slice none 0 0, .slice none 0 0, .slice none 0 0, .slice none 0 0, .slice none 0 0, .slice none 0 0, .slice none 0 0] 38)).heap.size = w.heap.size + 3) := by show _ = _; simp
  have G0 : Hid (GM (((w.alloc (.cells #[.int .i64 c.F, .int .i64 c.R, .int .i64 c.P, .bool c.u] 23)).alloc (.cells #[.int .i64 x.n, .int .u64 x.h, .int .u64 x.l] 29)).alloc (.cells #[.slice none 0 0, .slice none 0 0, .slice none 0 0, .slice none 0 0, .slice none 0 0, .slice none 0 0, .slice none 0 0, .slice none 0 0, .slice none 0 0, .slice none 0 0] 38)) (w.heap.size + 2) (w.heap.size + 3) (.slice none 0 0) (.slice none 0 0) (.slice none 0 0) (.slice none 0 0) [] [] [] []) := by
    have := GM.new ((w.alloc (.cells #[.int .i64 c.F, .int .i64 c.R, .int .i64 c.P, .bool c.u] 23)).alloc (.cells #[.int .i64 x.n, .int .u64 x.h, .int .u64 x.l] 29)) 38
    rw [show ((w.alloc (.cells #[.int .i64 c.F, .int .i64 c.R, .int .i64 c.P, .bool c.u] 23)).alloc (.cells #[.int .i64 x.n, .int .u64 x.h, .int .u64 x.l] 29)).heap.size = w.heap.size + 2 from by simp] at this
    exact this
  have cl := hide (lentmarks_any L a n k (((w.alloc (.cells #[.int .i64 c.F, .int .i64 c.R, .int .i64 c.P, .bool c.u] 23)).alloc (.cells #[.int .i64 x.n, .int .u64 x.h, .int .u64 x.l] 29)).alloc (.cells #[.slice none 0 0, .slice none 0 0, .slice none 0 0, .slice none 0 0, .slice none 0 0, .slice none 0 0, .slice none 0 0, .slice none 0 0, .slice none 0 0, .slice none 0 0] 38)) (H.out.later B0.out) (by omega))
  rw [hwz.out] at cl
  go_enter Try.func3, Try.ntmps3
  go_wp2_with fail
  refine cl.out.mono ?_
  rintro e w1 ⟨g, ck, rfl, hck, hgB, s1, t1, b1⟩
  have D1 := hide b1
  have S1 := hide s1
  have T1 := hide t1
  have z1 : w.heap.size + 3 ≤ w1.heap.size := by have := b1.size; rwa [hwz.out] at this
  have G1 : Hid (GM w1 (w.heap.size + 2) (w.heap.size + 3) (.slice none 0 0) (.slice none 0 0) (.slice none 0 0) (.slice none 0 0) [] [] [] []) := G0.out.bel (by rw [hwz.out]; exact b1)
  have E1 := hide (B0.out.trans (b1.mono (by omega)))
  clear b1 s1 t1 cl
  have cg := hide (given_vecM (w.heap.size + 2) (w.heap.size + 3) _ _ _ _ [] [] [] [] av vn vc D w1 G1.out (HD.out.later E1.out) hmv (by decide) rfl)
  dsimp only
  go_wp2_with fail
  refine cg.out.mono ?_
  rintro e w2 ⟨gv, cv, va, vb, g5, k5, rfl, sv, hgv, G2', hu, _, _⟩
  have hnb : ∀ b : Nat, b ≠ w.heap.size + 2 → ¬ (b = w.heap.size + 2 ∨ (Value.slice none 0 0).ownBlock = some b ∨ (Value.slice none 0 0).ownBlock = some b) := fun b hb hc => by
    rcases hc with hc | hc | hc
    · exact hb hc
    · cases hc
    · cases hc
  have z2 := hu.size
  have S2 := hide (S1.out.upd hu (fun z e _ => by cases e; exact hnb g (by omega)))
  have T2 := hide (T1.out.upd hu (fun z e _ => by cases e; exact hnb g (by omega)))
  have V2 := hide sv
  have G2 := hide G2'
  have E2 : Hid (Below w.heap.size w w2) := E1.out.trans (hu.below (by omega) (fun b hb => by
    rcases hb with hb | hb | hb
    · omega
    · cases hb
    · cases hb))
  have KC : Hid (∀ v, Below w2.heap.size w2 v → (v.cell? ⟨w.heap.size, 0, none⟩ = some (.int .i64 c.F) ∧ v.cell? ⟨w.heap.size, 1, none⟩ = some (.int .i64 c.R) ∧ v.cell? ⟨w.heap.size, 2, none⟩ = some (.int .i64 c.P) ∧ v.cell? ⟨w.heap.size, 3, none⟩ = some (.bool c.u)) ∧ (v.cell? ⟨w.heap.size + 1, 0, none⟩ = some (.int .i64 x.n) ∧ v.cell? ⟨w.heap.size + 1, 1, none⟩ = some (.int .u64 x.h) ∧ v.cell? ⟨w.heap.size + 1, 2, none⟩ = some (.int .u64 x.l))) := fun v hv =>
    ⟨⟨(hv.cell (p := ⟨w.heap.size, 0, none⟩) (by show w.heap.size < w2.heap.size; omega)).trans ((hu.cell (p := ⟨w.heap.size, 0, none⟩) (by show w.heap.size < w1.heap.size; omega) (hnb (w.heap.size) (by omega))).trans ((D1.out.cell (p := ⟨w.heap.size, 0, none⟩) (by show w.heap.size < w.heap.size + 3; omega)).trans (by go_simp))), (hv.cell (p := ⟨w.heap.size, 1, none⟩) (by show w.heap.size < w2.heap.size; omega)).trans ((hu.cell (p := ⟨w.heap.size, 1, none⟩) (by show w.heap.size < w1.heap.size; omega) (hnb (w.heap.size) (by omega))).trans ((D1.out.cell (p := ⟨w.heap.size, 1, none⟩) (by show w.heap.size < w.heap.size + 3; omega)).trans (by go_simp))), (hv.cell (p := ⟨w.heap.size, 2, none⟩) (by show w.heap.size < w2.heap.size; omega)).trans ((hu.cell (p := ⟨w.heap.size, 2, none⟩) (by show w.heap.size < w1.heap.size; omega) (hnb (w.heap.size) (by omega))).trans ((D1.out.cell (p := ⟨w.heap.size, 2, none⟩) (by show w.heap.size < w.heap.size + 3; omega)).trans (by go_simp))), (hv.cell (p := ⟨w.heap.size, 3, none⟩) (by show w.heap.size < w2.heap.size; omega)).trans ((hu.cell (p := ⟨w.heap.size, 3, none⟩) (by show w.heap.size < w1.heap.size; omega) (hnb (w.heap.size) (by omega))).trans ((D1.out.cell (p := ⟨w.heap.size, 3, none⟩) (by show w.heap.size < w.heap.size + 3; omega)).trans (by go_simp)))⟩, ⟨(hv.cell (p := ⟨w.heap.size + 1, 0, none⟩) (by show w.heap.size + 1 < w2.heap.size; omega)).trans ((hu.cell (p := ⟨w.heap.size + 1, 0, none⟩) (by show w.heap.size + 1 < w1.heap.size; omega) (hnb (w.heap.size + 1) (by omega))).trans ((D1.out.cell (p := ⟨w.heap.size + 1, 0, none⟩) (by show w.heap.size + 1 < w.heap.size + 3; omega)).trans (by go_simp))), (hv.cell (p := ⟨w.heap.size + 1, 1, none⟩) (by show w.heap.size + 1 < w2.heap.size; omega)).trans ((hu.cell (p := ⟨w.heap.size + 1, 1, none⟩) (by show w.heap.size + 1 < w1.heap.size; omega) (hnb (w.heap.size + 1) (by omega))).trans ((D1.out.cell (p := ⟨w.heap.size + 1, 1, none⟩) (by show w.heap.size + 1 < w.heap.size + 3; omega)).trans (by go_simp))), (hv.cell (p := ⟨w.heap.size + 1, 2, none⟩) (by show w.heap.size + 1 < w2.heap.size; omega)).trans ((hu.cell (p := ⟨w.heap.size + 1, 2, none⟩) (by show w.heap.size + 1 < w1.heap.size; omega) (hnb (w.heap.size + 1) (by omega))).trans ((D1.out.cell (p := ⟨w.heap.size + 1, 2, none⟩) (by show w.heap.size + 1 < w.heap.size + 3; omega)).trans (by go_simp)))⟩⟩
  clear sv hgv G2' hu hnb cg G0 G1 S1 T1
  have HL2 := hide (H.out.later E2.out)
  have HD2 := hide (HD.out.later E2.out)
  have c1 := hide (fun W (hW : Below w2.heap.size w2 W) => Mk.Check_any c self L (some ⟨g, 0, none⟩) n ck W (S2.out.later hW) (by omega))
  unfold Cg.val at c1
  have c2 := hide (fun W (hW : Below w2.heap.size w2 W) => refcheckmarks_any c self L a n k W (HL2.out.later hW))
  generalize Mk.ck c self L = CK at *
  have c3 := hide (fun W (hW : Below w2.heap.size w2 W) => Mk.Put_any L x (some ⟨g, 0, none⟩) n ck W (S2.out.later hW) (by omega))
  unfold Mk.val at c3
  have c4 := hide (fun W (hW : Below w2.heap.size w2 W) => refputmark_any L x a n k W (HL2.out.later hW) (by omega))
  generalize Mk.put L x = PL at *
  have c6 := hide (fun W (hW : Below w2.heap.size w2 W) => Mk.Prune_any L D (some ⟨g, 0, none⟩) (some ⟨gv, 0, none⟩) n ck vn cv W (S2.out.later hW) (V2.out.later hW) (by omega))
  have c7 := hide (fun W (hW : Below w2.heap.size w2 W) => refprunemarks_any L D a av n k vn vc W (HL2.out.later hW) (HD2.out.later hW) (by omega))
  generalize Mk.prn L D = RL at *
  have s0 := KC.out _ (Below.refl w2.heap.size w2).drew
  have D0 : Hid (Below w2.heap.size w2 w2.drew) := (Below.refl _ _).drew
  dsimp only
  go_wp2_with fail
  go_region_held3 (fun v => (v.cell? ⟨w.heap.size, 0, none⟩ = some (.int .i64 c.F) ∧ v.cell? ⟨w.heap.size, 1, none⟩ = some (.int .i64 c.R) ∧ v.cell? ⟨w.heap.size, 2, none⟩ = some (.int .i64 c.P) ∧ v.cell? ⟨w.heap.size, 3, none⟩ = some (.bool c.u)) ∧ (v.cell? ⟨w.heap.size + 1, 0, none⟩ = some (.int .i64 x.n) ∧ v.cell? ⟨w.heap.size + 1, 1, none⟩ = some (.int .u64 x.h) ∧ v.cell? ⟨w.heap.size + 1, 2, none⟩ = some (.int .u64 x.l))) (with_reducible assumption) (first
    | (have := P8; go_at_call 17; refine (samemarks_any RL a8 a9 _ k8 k9 _ P8.out s9).mono ?_; rintro e w10 ⟨rfl, kk, rfl⟩; have D10 := hide (belNN D9.out kk); have t10 := KC.out _ D10.out; clear s9 P8)
    | (have := P7; go_at_call 21; refine (c7.out _ D8.out).mono ?_; rintro e w9 ⟨v9, rfl, o9, b9⟩; obtain ⟨a9, k9, rfl, s9, _⟩ := o9.sl kMkA; have D9 := hide (D8.out.trans (b9.mono D8.out.size)); have P8 := hide (P7.out.later b9); have t9 := KC.out w9 D9.out; clear o9 b9 P7)
    | (have := D7; go_at_call 20; refine (c6.out _ D7.out).mono ?_; rintro e w8 ⟨v8, rfl, o8, b8⟩; obtain ⟨a8, k8, rfl, s8, _⟩ := o8.sl kMkA; have D8 := hide (D7.out.trans (b8.mono D7.out.size)); have P7 := hide s8; have t8 := KC.out w8 D8.out; clear o8 b8 s8)
    | (have := P6; go_at_call 17; refine (samemarks_any PL a5 a6 _ k5' k6 _ P6.out s6).mono ?_; rintro e w7 ⟨rfl, kk7, rfl⟩; have D7 := hide (belNN D6.out kk7); have t7 := KC.out _ D7.out; clear s6 P6)
    | (have := P5; go_at_call 19; refine (c4.out _ D5.out).mono ?_; rintro e w6 ⟨v6, rfl, o6, b6⟩; obtain ⟨a6, k6, rfl, s6, _⟩ := o6.sl kMkA; have D6 := hide (D5.out.trans (b6.mono D5.out.size)); have P6 := hide (P5.out.later b6); have t6 := KC.out w6 D6.out; clear o6 b6 P5)
    | (have := D4; go_at_call 18; refine (c3.out _ D4.out).mono ?_; rintro e w5 ⟨v5, rfl, o5, b5⟩; obtain ⟨a5, k5', rfl, s5, _⟩ := o5.sl kMkA; have D5 := hide (D4.out.trans (b5.mono D4.out.size)); have P5 := hide s5; have t5 := KC.out w5 D5.out; clear o5 b5 s5)
    | (have := D3; go_at_call 16; refine (c2.out _ D3.out).mono ?_; rintro e w4 ⟨rfl, b4⟩; have D4 := hide (D3.out.trans (b4.mono D3.out.size)); have t4 := KC.out w4 D4.out; clear b4)
    | (go_at_call 15; refine (c1.out _ D0.out).mono ?_; rintro e w3 ⟨rfl, b3⟩; have D3 := hide (D0.out.trans (b3.mono D0.out.size)); have t3 := KC.out w3 D3.out; clear b3))
  generalize w9.drewN kk = w11 at *
  have t11 := KC.out _ D10.out.drew
  have D12 := hide D10.out.drew
  clear c1 c2 c3 c4 c6 c7 t10
  have ck1 := hide (fun W (hW : Below w2.heap.size w2 W) => keptmarks_any L g ck a n k W (S2.out.later hW) (T2.out.later hW) (HL2.out.later hW))
  have ci1 := hide (fun W (hW : Below w2.heap.size w2 W) => intactM_any (w.heap.size + 2) (w.heap.size + 3) _ _ _ _ _ _ _ _ W (G2.out.bel hW) rfl rfl)
  go_wp2_with fail
  go_region_held3 (fun v => (v.cell? ⟨w.heap.size, 0, none⟩ = some (.int .i64 c.F) ∧ v.cell? ⟨w.heap.size, 1, none⟩ = some (.int .i64 c.R) ∧ v.cell? ⟨w.heap.size, 2, none⟩ = some (.int .i64 c.P) ∧ v.cell? ⟨w.heap.size, 3, none⟩ = some (.bool c.u)) ∧ (v.cell? ⟨w.heap.size + 1, 0, none⟩ = some (.int .i64 x.n) ∧ v.cell? ⟨w.heap.size + 1, 1, none⟩ = some (.int .u64 x.h) ∧ v.cell? ⟨w.heap.size + 1, 2, none⟩ = some (.int .u64 x.l))) (first | with_reducible assumption | exact t14 | exact t13) (first
    | (go_at_call 22; refine (marked_any c.F _ n ck _).mono ?_; rintro e wm ⟨rfl, rfl⟩)
    | (go_at_call 23; refine (refmarked_any c.F a n k _).mono ?_; rintro e wm ⟨rfl, rfl⟩)
    | (go_at_call 24; refine (ck1.out _ D12.out).mono ?_; rintro e w13 ⟨rfl, k13, hw13⟩; have D13 : Hid (Below w2.heap.size w2 w13) := (by show Below _ _ _; rw [hw13]; exact belNN D12.out k13); clear hw13; have t13 := KC.out _ D13.out)
    | (go_at_call 25; refine (ci1.out _ D13.out).mono ?_; rintro e w14 ⟨rfl, k14, hw14⟩; have D14 : Hid (Below w2.heap.size w2 w14) := (by show Below _ _ _; rw [hw14]; exact belNN D13.out k14); clear hw14; have t14 := KC.out _ D14.out)
    | (go_at_call 26; refine (works8_any _).mono ?_; rintro e w15 ⟨rfl, b15⟩; have D15 := hide (D14.out.trans (b15.mono D14.out.size)); have t15 := KC.out w15 D15.out; clear b15))
  go_wp2
  go_ret
  exact ⟨rfl, E2.out.trans (D15.out.mono E2.out.size)⟩

end Go.Proofs.Ytnhonkgondljjaa

namespace Go.Proofs.Ytnhonkgondljjaa
open Go.ChangeShapes Go.WideShapes Go.ChangeAt Go.RowKit Go.Maps
set_option linter.unusedVariables false
set_option linter.unusedSimpArgs false

theorem cfCells : Try.prog.cellsOf 23 = 4 := by kernel_rfl
theorem boolCells9 : Try.prog.cellsOf 4 = 1 := by kernel_rfl
theorem drBytes8 : Try.prog.bytesOf 27 = 16 := by kernel_rfl
set_option maxRecDepth 100000 in
/-- A configuration by value that came in. -/
theorem open_cfg {H : Type} {enc : TypeId × Value → H} {W : World} {base : Nat} {v : Value} {d : DataW H} {p : List MemPlace} (hv : Value.okWide Try.prog W .any base 23 v) (h : DataW.Trod enc Try.prog W 0 (fun _ => true) true 23 v d p) :
    ∃ x : Cg, v = .agg #[.int .i64 x.F, .int .i64 x.R, .int .i64 x.P, .bool x.u] ∧ True := by
  obtain ⟨cs, rfl, hsz⟩ := okWide_struct Try.underlying23 hv
  obtain ⟨fuel, hf⟩ := h
  obtain ⟨xs, k, hk, hxy, hlen, hxl, hf⟩ := DataW.trod_struct Try.underlying23 hf
  rw [cfCells] at hlen
  have hxl : xs.length = 4 := hxl
  simp only [Value.cells] at hlen hf
  obtain ⟨l⟩ := cs
  match xs, hxl, l, hlen with
  | [y0, y1, y2, y3], _, [v0, v1, v2, v3], _ =>
    have g0 := hf 0 _ rfl
    have g1 := hf 1 _ rfl
    have g2 := hf 2 _ rfl
    have g3 := hf 3 _ rfl
    simp [intCells, boolCells9] at g0 g1 g2 g3
    obtain ⟨A, hA, _, _⟩ := DataW.trod_int Try.underlying3 g0
    obtain ⟨B, hB, _, _⟩ := DataW.trod_int Try.underlying3 g1
    obtain ⟨C, hC, _, _⟩ := DataW.trod_int Try.underlying3 g2
    obtain ⟨b, hb, _⟩ := DataW.trod_bool Try.underlying4 g3
    refine ⟨⟨A, B, C, b⟩, ?_, trivial⟩
    simp at hA hB hC hb
    subst hA hB hC hb
    rfl
set_option maxRecDepth 100000 in
/-- A mark by value that came in. -/
theorem open_mark {H : Type} {enc : TypeId × Value → H} {W : World} {base : Nat} {v : Value} {d : DataW H} {p : List MemPlace} (hv : Value.okWide Try.prog W .any base 29 v) (h : DataW.Trod enc Try.prog W 0 (fun _ => true) true 29 v d p) :
    ∃ x : Mk, v = .agg #[.int .i64 x.n, .int .u64 x.h, .int .u64 x.l] ∧ True := by
  obtain ⟨cs, rfl, hsz⟩ := okWide_struct Try.underlying29 hv
  obtain ⟨fuel, hf⟩ := h
  obtain ⟨o, _, e⟩ := open_mkc hf
  refine ⟨o, ?_, trivial⟩
  have e : cs.toList = [.int .i64 o.n, .int .u64 o.h, .int .u64 o.l] := by simp only [Value.cells] at e; exact e
  have : cs = #[.int .i64 o.n, .int .u64 o.h, .int .u64 o.l] := by rw [← Array.toList_inj]; exact e
  rw [this]
def CameVD8 (W : World) (a : Option Addr) (len cap : Nat) : Prop := ∃ P : List (Int × Int), SlY yD W a len cap P ∧ len * 16 ≤ 140737488351232
set_option maxRecDepth 100000 in
theorem open_vecD8 {H : Type} {enc : TypeId × Value → H} {W : World} {base : Nat} {v : Value} {d : DataW H} {p : List MemPlace} (hv : Value.okWide Try.prog W .any base 31 v) (h : DataW.Trod enc Try.prog W 0 (fun _ => true) true 31 v d p)
    (hs : ∀ el sp, d = .slice el sp → (el.length + sp.length) * Try.prog.bytesOf 27 ≤ reachBytes) : ∃ a len cap, v = .slice a len cap ∧ CameVD8 W a len cap := by
  obtain ⟨a, n, c, rfl, P, h1, h2, el, sp, e1, _, e3⟩ := open_rowsN kD (fun _ => True) drCells9 (fun h => by
    obtain ⟨x, y, _, e⟩ := open_drc9 h
    exact ⟨(x, y), trivial, e⟩) hv h
  refine ⟨a, n, c, rfl, P, h1, ?_⟩
  rcases e3 with e3 | e3
  · omega
  · have := hs el sp e3
    rw [drBytes8, e1, Nat.add_mul] at this
    simp only [reachBytes] at this
    omega
theorem marks_came (c : Cg) (self : Int) (a : Option Addr) (len cap : Nat) (x : Mk) (av : Option Addr) (vn vc : Nat) (W : World) (h : CameMk W a len cap) (hv : CameVD8 W av vn vc) :
    Calls Try.prog 3 #[.agg #[.int .i64 c.F, .int .i64 c.R, .int .i64 c.P, .bool c.u], .int .i64 self, .slice a len cap, .agg #[.int .i64 x.n, .int .u64 x.h, .int .u64 x.l], .slice av vn vc] W fun e w' => e = .returned (.bool true) ∧ Below W.heap.size W w' := by
  obtain ⟨P, hs, hm⟩ := h
  obtain ⟨D, hD, hmv⟩ := hv
  exact marks_walk c self P a len cap x D av vn vc W hs hD hm hmv

end Go.Proofs.Ytnhonkgondljjaa

