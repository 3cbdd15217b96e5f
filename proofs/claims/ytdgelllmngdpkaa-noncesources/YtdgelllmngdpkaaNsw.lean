import Derived.Test.YtdgelllmngdpkaaDz
import Derived.Test.YtdgelllmngdpkaaLk1
import Derived.Laws.OwnMore
namespace Go.Proofs.Ytdgelllmngdpkaa
open Go.RowKit
set_option linter.unusedVariables false
set_option linter.unusedSimpArgs false

/-- A slice of draws of the call's own, whatever they are. -/
def OwnX (B : Nat) (w : World) (v : Value) (n : Nat) : Prop := ∃ xs, w.ownsRow B 44 2 v n xs
theorem OwnX.stored {B : Nat} {w : World} {g n c : Nat} (h : OwnX B w (.slice (some ⟨g, 0, none⟩) n c) n) (i : Nat) (x y : Value) : OwnX B ((w.setCell ⟨g, i * 2, none⟩ x).setCell ⟨g, i * 2 + 1, none⟩ y) (.slice (some ⟨g, 0, none⟩) n c) n := by
  obtain ⟨xs, h⟩ := h
  exact ⟨_, (World.ownsRow.stored (World.ownsRow.stored h (i * 2) x).1 (i * 2 + 1) y).1⟩
theorem OwnX.cell {B : Nat} {w : World} {g n c : Nat} (h : OwnX B w (.slice (some ⟨g, 0, none⟩) n c) n) (i : Nat) (hi : i < n) : (∃ u, w.cell? ⟨g, i * 2, none⟩ = some u) ∧ (∃ u, w.cell? ⟨g, i * 2 + 1, none⟩ = some u) ∧ w.frozen? ⟨g, i * 2, none⟩ = false ∧ w.frozen? ⟨g, i * 2 + 1, none⟩ = false := by
  obtain ⟨xs, h⟩ := h
  have hl := h.1
  have e0 := World.ownsRow.cellAt h (i * 2) (by omega)
  have e1 := World.ownsRow.cellAt h (i * 2 + 1) (by omega)
  rw [List.getElem?_eq_getElem (by omega)] at e0 e1
  exact ⟨⟨_, e0⟩, ⟨_, e1⟩, World.ownsRow.frozenAt h _, World.ownsRow.frozenAt h _⟩
/-- The cells of the sources' struct. -/
structure Tc (w : World) (t : Nat) (vs : Nat → Value) : Prop where
  lt : t < w.heap.size
  at_ : ∀ i, i < 11 → w.cell? ⟨t, i, none⟩ = some (vs i) ∧ w.frozen? ⟨t, i, none⟩ = false
theorem Tc.upd {S : Nat → Prop} {w w' : World} {t : Nat} {vs : Nat → Value} (h : Tc w t vs) (u : Upd S w w') (hs : ¬ S t) : Tc w' t vs :=
  ⟨Nat.lt_of_lt_of_le h.lt u.size, fun i hi => ⟨(u.cell (p := ⟨t, i, none⟩) h.lt hs).trans (h.at_ i hi).1, (u.frozen (p := ⟨t, i, none⟩) h.lt hs).trans (h.at_ i hi).2⟩⟩
theorem Tc.set {w : World} {t : Nat} {vs : Nat → Value} (h : Tc w t vs) (j : Nat) (hj : j < 11) (u : Value) : Tc (w.setCell ⟨t, j, none⟩ u) t (fun i => if i = j then u else vs i) := by
  refine ⟨by simpa [World.setCell] using h.lt, fun i hi => ?_⟩
  obtain ⟨h1, h2⟩ := h.at_ i hi
  by_cases e : i = j
  · subst e
    refine ⟨?_, by go_simp⟩
    rw [if_pos rfl]
    exact setc_eq' h1
  · rw [if_neg e]
    exact ⟨setc_ne' h1 e, by go_simp⟩
theorem Sl.fore {w : World} {a : Option Addr} {c : Nat} {L M : List (Int × Int)} (hM : M ≠ []) (h : Sl w (.slice a (L ++ M).length c) (L ++ M) a c) : Sl w (.slice a L.length c) L a c := by
  refine ⟨rfl, by have := h.cap; rw [List.length_append] at this; omega, h.max, fun e => ?_, fun x hx => ?_⟩
  · exact absurd (List.append_eq_nil_iff.1 (h.nil e).1).2 hM
  · rcases h.at_ x hx with ⟨e, _⟩ | ⟨q, o, rfl, hq, hl⟩
    · exact absurd (List.append_eq_nil_iff.1 e).2 hM
    · exact .inr ⟨q, o, rfl, hq, fun i d hd => hl i d (by rw [List.getElem?_append_left (List.getElem?_eq_some_iff.1 hd).1]; exact hd)⟩
/-- The calls of a script that came in. -/
def CameQ (W : World) (a : Option Addr) (len cap : Nat) : Prop := len ≤ cap ∧ cap ≤ 140737488355328 ∧ ∀ i, i < len → ∃ q o K wh N, a = some ⟨q, o, none⟩ ∧ q < W.heap.size ∧ W.cell? ⟨q, o + i * 3, none⟩ = some (.int .i64 K) ∧ W.cell? ⟨q, o + i * 3 + 1, none⟩ = some (.bool wh) ∧ W.cell? ⟨q, o + i * 3 + 2, none⟩ = some (.int .u64 N) ∧ 0 ≤ N ∧ N ≤ 18446744073709551615
def vs0 (c m s : Nat) (al : Option Addr) (n cl : Nat) : Nat → Value
  | 0 => .pointer (some ⟨c, 0, none⟩)
  | 3 => .pointer (some ⟨m, 0, none⟩)
  | 4 => .pointer (some ⟨s, 0, none⟩)
  | 9 => .slice al n cl
  | 10 => .int .i64 0
  | _ => .pointer none

set_option maxRecDepth 100000 in
set_option maxHeartbeats 2000000 in
theorem sources_walk (at_ sd : Int) (L : List (Int × Int)) (al a3 : Option Addr) (cl len3 cap3 : Nat) (W : World) (hat : 0 ≤ at_ ∧ at_ ≤ 18446744073709551615) (hsd : 0 ≤ sd ∧ sd ≤ 18446744073709551615) (hl : Sl W (.slice al L.length cl) L al cl) (hL : L.length * 16 ≤ 140737488351232) (hz : ∀ z, al = some z → L ≠ [] → z.block < W.heap.size) (h3 : CameQ W a3 len3 cap3) :
    Calls Try.prog 3 #[.int .u64 at_, .int .u64 sd, .slice al L.length cl, .slice a3 len3 cap3] W fun e w' => e = .returned (.bool true) ∧ Below W.heap.size W w' := by
  have LS := hide hl
  have LZ := hide hz
  have H3 := hide h3
  have HAT := hide hat
  have HSD := hide hsd
  clear hl hz h3 hat hsd
  go_enter Try.func3, Try.ntmps3
  go_wp2_with fail
  refine (lent1_any L al cl W LS.out hL).mono ?_
  rintro e w1 ⟨ao, co, rfl, o1, b1⟩
  dsimp only
  obtain ⟨g, rfl, hg1, hg2⟩ : ∃ g, ao = some ⟨g, 0, none⟩ ∧ W.heap.size ≤ g ∧ g < w1.heap.size := by
    have hml : (L ++ marks 7).length = L.length + 7 := by rw [List.length_append, marks_length]
    obtain ⟨a', c', hf, h1, h2, h3, h4⟩ := o1.form
    injection hf with f1 f2 f3
    subst f1
    cases ao with
    | none => have := (h3 rfl).1; rw [this] at hml; simp at hml
    | some x => obtain ⟨g, rfl, hg⟩ := h4 x rfl; exact ⟨g, rfl, hg⟩
  have O1 := hide o1
  have B1 := hide b1
  clear o1 b1
  go_wp2_with fail
  refine (newclock_any at_ w1).mono ?_
  rintro e w2 ⟨rfl, e2⟩
  dsimp only
  have C2 : Hid (Clk w2 w1.heap.size at_) := by rw [e2]; exact Clk.new at_ w1 HAT.out.1 HAT.out.2
  have B2 : Hid (Below w1.heap.size w1 w2) := by rw [e2]; exact (Below.refl _ _).alloc (Nat.le_refl _) _
  clear e2
  go_wp2_with fail
  refine (newmixed_any sd w2).mono ?_
  rintro e w3 ⟨rfl, e3⟩
  dsimp only
  have M3 : Hid (Mix w3 w2.heap.size sd) := by rw [e3]; exact ⟨by simp, by simp, by simp, HSD.out.1, HSD.out.2⟩
  have B3 : Hid (Below w2.heap.size w2 w3) := by rw [e3]; exact (Below.refl _ _).alloc (Nat.le_refl _) _
  clear e3
  have S3 : Hid (Sl w3 (.slice (some ⟨g, 0, none⟩) L.length co) L (some ⟨g, 0, none⟩) co) := by
    have h := (O1.out.upd (S := fun _ => False) ((Upd.of_below B2.out).trans (Upd.of_below B3.out)) (fun _ _ => id))
    obtain ⟨a', c', hs, _⟩ := h.sl
    have hf := hs.form
    injection hf with f1 f2 f3
    subst f1 f3
    have e : (L ++ marks 7).length = L.length + 7 := by rw [List.length_append, marks_length]
    refine Sl.fore (M := marks 7) (fun e => by have := congrArg List.length e; rw [marks_length] at this; simp at this) ?_
    rw [e]
    exact hs
  go_wp2_with fail
  refine (newstream_any L (some ⟨g, 0, none⟩) co w3 S3.out (by omega)).mono ?_
  rintro e w4 ⟨s, a5, c5, rfl, A4, hs4, hz4, b4⟩
  dsimp only
  have B4 := hide b4
  clear b4
  obtain ⟨w5, hw5⟩ : ∃ w5, w4.alloc (.cells #[.pointer (some ⟨w1.heap.size, 0, none⟩), .pointer none, .pointer none, .pointer (some ⟨w2.heap.size, 0, none⟩), .pointer (some ⟨s, 0, none⟩), .pointer none, .pointer none, .pointer none, .pointer none, .slice al L.length cl, .int .i64 0] 38) = w5 := ⟨_, rfl⟩
  have T5 : Hid (Tc w5 w4.heap.size (vs0 w1.heap.size w2.heap.size s al L.length cl)) := by
    rw [← hw5]
    refine ⟨by simp, fun i hi => ?_⟩
    match i, hi with
    | 0, _ | 1, _ | 2, _ | 3, _ | 4, _ | 5, _ | 6, _ | 7, _ | 8, _ | 9, _ | 10, _ => exact ⟨by simp [vs0], by simp⟩
  have B5 : Hid (Below w4.heap.size w4 w5) := by rw [← hw5]; exact (Below.refl _ _).alloc (Nat.le_refl _) _
  have x0 := (T5.out.at_ 0 (by omega)).1
  simp only [vs0] at x0
  go_wp2_with fail
  clear hw5 x0
  refine (newpairs_any w1.heap.size w5).mono ?_
  rintro e w6 ⟨rfl, e6⟩
  dsimp only
  have P6 : Hid (Prs w6 w5.heap.size w1.heap.size 0 0) := by
    rw [e6]
    exact Prs.new w1.heap.size w5 (by have := C2.out.lt; have := B3.out.size; have := B4.out.size; have := B5.out.size; omega)
  have B6 : Hid (Below w5.heap.size w5 w6) := by rw [e6]; exact (Below.refl _ _).alloc (Nat.le_refl _) _
  clear e6
  have T6 := hide (T5.out.upd (S := fun _ => False) (Upd.of_below B6.out) id)
  obtain ⟨w7, hw7⟩ : ∃ w7, w6.setCell ⟨w4.heap.size, 1, none⟩ (.pointer (some ⟨w5.heap.size, 0, none⟩)) = w7 := ⟨_, rfl⟩
  have T7 : Hid (Tc w7 w4.heap.size (fun i => if i = 1 then .pointer (some ⟨w5.heap.size, 0, none⟩) else vs0 w1.heap.size w2.heap.size s al L.length cl i)) := by rw [← hw7]; exact T6.out.set 1 (by omega) _
  have U7 : Hid (Upd (· = w4.heap.size) w6 w7) := by rw [← hw7]; exact (Upd.refl (· = w4.heap.size) w6).setCell (p := ⟨w4.heap.size, 1, none⟩) (.inl rfl) _
  obtain ⟨x1, f1⟩ := T6.out.at_ 1 (by omega)
  simp only [vs0] at x1
  have x0 := (T7.out.at_ 0 (by omega)).1
  simp [vs0] at x0
  go_wp2_with fail
  clear hw7 x0 x1 f1
  refine (newpairs_any w1.heap.size w7).mono ?_
  rintro e w8 ⟨rfl, e8⟩
  dsimp only
  have P8 : Hid (Prs w8 w7.heap.size w1.heap.size 0 0) := by
    rw [e8]
    exact Prs.new w1.heap.size w7 (by have := C2.out.lt; have := B3.out.size; have := B4.out.size; have := B5.out.size; have := B6.out.size; have := U7.out.size; omega)
  have B8 : Hid (Below w7.heap.size w7 w8) := by rw [e8]; exact (Below.refl _ _).alloc (Nat.le_refl _) _
  clear e8
  have T8 := hide (T7.out.upd (S := fun _ => False) (Upd.of_below B8.out) id)
  obtain ⟨w9, hw9⟩ : ∃ w9, w8.setCell ⟨w4.heap.size, 2, none⟩ (.pointer (some ⟨w7.heap.size, 0, none⟩)) = w9 := ⟨_, rfl⟩
  have T9 : Hid (Tc w9 w4.heap.size (fun i => if i = 2 then .pointer (some ⟨w7.heap.size, 0, none⟩) else if i = 1 then .pointer (some ⟨w5.heap.size, 0, none⟩) else vs0 w1.heap.size w2.heap.size s al L.length cl i)) := by rw [← hw9]; exact T8.out.set 2 (by omega) _
  have U9 : Hid (Upd (· = w4.heap.size) w8 w9) := by rw [← hw9]; exact (Upd.refl (· = w4.heap.size) w8).setCell (p := ⟨w4.heap.size, 2, none⟩) (.inl rfl) _
  obtain ⟨x2, f2⟩ := T8.out.at_ 2 (by omega)
  simp [vs0] at x2
  have y0 := (T9.out.at_ 0 (by omega)).1
  have y1 := (T9.out.at_ 1 (by omega)).1
  have y2 := (T9.out.at_ 2 (by omega)).1
  have y3 := (T9.out.at_ 3 (by omega)).1
  have y4 := (T9.out.at_ 4 (by omega)).1
  simp [vs0] at y0 y1 y2 y3 y4
  -- what has changed since w4
  have U49 : Hid (Upd (· = w4.heap.size) w4 w9) := ((((Upd.of_below B5.out).trans (Upd.mono (Upd.of_below (S := (· = w4.heap.size)) B6.out) (fun _ _ h => h))).trans U7.out).trans (Upd.of_below B8.out)).trans U9.out
  have B14 : Hid (Below w1.heap.size w1 w4) := (B2.out.trans (B3.out.mono B2.out.size)).trans (B4.out.mono (Nat.le_trans B2.out.size B3.out.size))
  have z14 := B14.out.size
  have U19 : Hid (Upd (· = w4.heap.size) w1 w9) := (Upd.of_below B14.out).trans U49.out
  have O9 := hide (O1.out.upd2 U19.out (fun k hk e => by cases hk; have e : g = w4.heap.size := e; omega))
  have z01 := B1.out.size
  have L9 : Hid (Sl w9 (.slice al L.length cl) L al cl) := (LS.out.upd (Upd.of_below B1.out) (fun _ _ _ => id) (S := fun _ => False)).upd U19.out (fun x hx hn e => by have := LZ.out x hx hn; have e : x.block = w4.heap.size := e; omega)
  go_wp2_with fail
  clear hw9 x2 f2 y0 y1 y2 y3 y4
  refine (kept_any L (some ⟨g, 0, none⟩) al co cl W.heap.size w9 O9.out L9.out hL).mono ?_
  rintro e w10 ⟨rfl, b10⟩
  dsimp only
  have B10 := hide b10
  clear b10
  have X10 : Hid (OwnX W.heap.size w10 (.slice (some ⟨g, 0, none⟩) (L.length + 7) co) (L.length + 7)) := by
    have h := O9.out.upd (S := fun _ => False) (Upd.of_below B10.out) (fun _ _ => id)
    unfold OwnD at h
    rw [List.length_append, marks_length] at h
    exact ⟨_, h⟩
  have hco : L.length ≤ co ∧ co ≤ 9223372036854775807 := by
    obtain ⟨a', c', hf, h1, h2, h3, h4⟩ := O1.out.form
    injection hf with e1 e2 e3
    subst e3
    rw [List.length_append, marks_length] at h1
    unfold maxLen at h2
    omega
  go_wp2
  go_loopw [13] (fun i wr => ∃ k : Nat, i = .int .i64 (k : Int) ∧ k ≤ L.length ∧ Hid (OwnX W.heap.size wr (.slice (some ⟨g, 0, none⟩) (L.length + 7) co) (L.length + 7)) ∧ Hid (Upd (· = g) w10 wr)) (fun i _ => L.length - (intOf i).toNat)
  case atStart => exact ⟨0, rfl, Nat.zero_le _, X10, Upd.refl _ _⟩
  case round =>
    obtain ⟨k, rfl, hk, X, bq⟩ := hrel
    by_cases hkj : k < L.length
    · obtain ⟨⟨y0, k0⟩, ⟨y1, k1⟩, z0, z1⟩ := X.out.cell k (by omega)
      have X3 := hide (X.out.stored k (.int .u64 99) (.int .u64 0))
      have b3 := hide ((bq.out.setCell (p := ⟨g, k * 2, none⟩) (.inl rfl) (.int .u64 99)).setCell (p := ⟨g, k * 2 + 1, none⟩) (.inl rfl) (.int .u64 0))
      clear X bq
      go_wp2
      go_round
      case rel => exact ⟨k + 1, by go_num, by omega, X3, b3⟩
      case measure => simp [intOf]; omega
    · obtain rfl : k = L.length := by omega
      obtain ⟨w11, hwr⟩ : ∃ w11, w11 = wr := ⟨_, rfl⟩
      subst hwr
      have BQ := bq
      clear bq X X10 O9 O1 S3
      have T11 := hide ((T9.out.upd (S := fun _ => False) (Upd.of_below B10.out) id).upd BQ.out (show ¬ (w4.heap.size = g) by omega))
      obtain ⟨w12, hw12⟩ : ∃ w12, w11.alloc (.cells #[.int .u64 at_] 46) = w12 := ⟨_, rfl⟩
      have B12 : Hid (Below w11.heap.size w11 w12) := by rw [← hw12]; exact (Below.refl _ _).alloc (Nat.le_refl _) _
      have T12 := hide (T11.out.upd (S := fun _ => False) (Upd.of_below B12.out) id)
      obtain ⟨w13, hw13⟩ : ∃ w13, w12.setCell ⟨w4.heap.size, 5, none⟩ (.pointer (some ⟨w11.heap.size, 0, none⟩)) = w13 := ⟨_, rfl⟩
      have T13 := hide (T12.out.set 5 (by omega) (.pointer (some ⟨w11.heap.size, 0, none⟩)))
      rw [hw13] at T13
      have U13 : Hid (Upd (· = w4.heap.size) w12 w13) := by rw [← hw13]; exact (Upd.refl (· = w4.heap.size) w12).setCell (p := ⟨w4.heap.size, 5, none⟩) (.inl rfl) _
      obtain ⟨w14, hw14⟩ : ∃ w14, w13.alloc (.cells #[.pointer (some ⟨w11.heap.size, 0, none⟩), .slice none 0 0] 48) = w14 := ⟨_, rfl⟩
      have BB14 : Hid (Below w13.heap.size w13 w14) := by rw [← hw14]; exact (Below.refl _ _).alloc (Nat.le_refl _) _
      have T14 := hide (T13.out.upd (S := fun _ => False) (Upd.of_below BB14.out) id)
      obtain ⟨w15, hw15⟩ : ∃ w15, w14.setCell ⟨w4.heap.size, 6, none⟩ (.pointer (some ⟨w13.heap.size, 0, none⟩)) = w15 := ⟨_, rfl⟩
      have T15 := hide (T14.out.set 6 (by omega) (.pointer (some ⟨w13.heap.size, 0, none⟩)))
      rw [hw15] at T15
      have U15 : Hid (Upd (· = w4.heap.size) w14 w15) := by rw [← hw15]; exact (Upd.refl (· = w4.heap.size) w14).setCell (p := ⟨w4.heap.size, 6, none⟩) (.inl rfl) _
      obtain ⟨w16, hw16⟩ : ∃ w16, w15.alloc (.cells #[.pointer (some ⟨w11.heap.size, 0, none⟩), .slice none 0 0] 48) = w16 := ⟨_, rfl⟩
      have B16 : Hid (Below w15.heap.size w15 w16) := by rw [← hw16]; exact (Below.refl _ _).alloc (Nat.le_refl _) _
      have T16 := hide (T15.out.upd (S := fun _ => False) (Upd.of_below B16.out) id)
      obtain ⟨w17, hw17⟩ : ∃ w17, w16.setCell ⟨w4.heap.size, 7, none⟩ (.pointer (some ⟨w15.heap.size, 0, none⟩)) = w17 := ⟨_, rfl⟩
      have T17 := hide (T16.out.set 7 (by omega) (.pointer (some ⟨w15.heap.size, 0, none⟩)))
      rw [hw17] at T17
      have U17 : Hid (Upd (· = w4.heap.size) w16 w17) := by rw [← hw17]; exact (Upd.refl (· = w4.heap.size) w16).setCell (p := ⟨w4.heap.size, 7, none⟩) (.inl rfl) _
      obtain ⟨w18, hw18⟩ : ∃ w18, w17.alloc (.cells #[.int .u64 sd] 50) = w18 := ⟨_, rfl⟩
      have B18 : Hid (Below w17.heap.size w17 w18) := by rw [← hw18]; exact (Below.refl _ _).alloc (Nat.le_refl _) _
      have T18 := hide (T17.out.upd (S := fun _ => False) (Upd.of_below B18.out) id)
      obtain ⟨w19, hw19⟩ : ∃ w19, w18.setCell ⟨w4.heap.size, 8, none⟩ (.pointer (some ⟨w17.heap.size, 0, none⟩)) = w19 := ⟨_, rfl⟩
      have T19 := hide (T18.out.set 8 (by omega) (.pointer (some ⟨w17.heap.size, 0, none⟩)))
      rw [hw19] at T19
      have UU19 : Hid (Upd (· = w4.heap.size) w18 w19) := by rw [← hw19]; exact (Upd.refl (· = w4.heap.size) w18).setCell (p := ⟨w4.heap.size, 8, none⟩) (.inl rfl) _
      have D12 : Hid (RClk w12 w11.heap.size at_) := by rw [← hw12]; exact ⟨by simp, by simp, by simp, HAT.out.1, HAT.out.2⟩
      have X14 : Hid (w13.heap.size < w14.heap.size ∧ w14.cell? ⟨w13.heap.size, 0, none⟩ = some (.pointer (some ⟨w11.heap.size, 0, none⟩)) ∧ w14.cell? ⟨w13.heap.size, 1, none⟩ = some (.slice none 0 0) ∧ w14.frozen? ⟨w13.heap.size, 1, none⟩ = false) := by rw [← hw14]; exact ⟨by simp, by simp, by simp, by simp⟩
      have Y16 : Hid (w15.heap.size < w16.heap.size ∧ w16.cell? ⟨w15.heap.size, 0, none⟩ = some (.pointer (some ⟨w11.heap.size, 0, none⟩)) ∧ w16.cell? ⟨w15.heap.size, 1, none⟩ = some (.slice none 0 0) ∧ w16.frozen? ⟨w15.heap.size, 1, none⟩ = false) := by rw [← hw16]; exact ⟨by simp, by simp, by simp, by simp⟩
      have Z18 : Hid (Mix w18 w17.heap.size sd) := by rw [← hw18]; exact ⟨by simp, by simp, by simp, HSD.out.1, HSD.out.2⟩
      have V18 : Hid (Upd (fun i => i = w4.heap.size ∨ i = g) w18 w19) := UU19.out.mono (fun _ _ h => .inl h)
      have V17 : Hid (Upd (fun i => i = w4.heap.size ∨ i = g) w17 w19) := (Upd.of_below B18.out).trans V18.out
      have V16 : Hid (Upd (fun i => i = w4.heap.size ∨ i = g) w16 w19) := (U17.out.mono (fun _ _ h => .inl h)).trans V17.out
      have V15 : Hid (Upd (fun i => i = w4.heap.size ∨ i = g) w15 w19) := (Upd.of_below B16.out).trans V16.out
      have V14 : Hid (Upd (fun i => i = w4.heap.size ∨ i = g) w14 w19) := (U15.out.mono (fun _ _ h => .inl h)).trans V15.out
      have V13 : Hid (Upd (fun i => i = w4.heap.size ∨ i = g) w13 w19) := (Upd.of_below BB14.out).trans V14.out
      have V12 : Hid (Upd (fun i => i = w4.heap.size ∨ i = g) w12 w19) := (U13.out.mono (fun _ _ h => .inl h)).trans V13.out
      have V11 : Hid (Upd (fun i => i = w4.heap.size ∨ i = g) w11 w19) := (Upd.of_below B12.out).trans V12.out
      have V10 : Hid (Upd (fun i => i = w4.heap.size ∨ i = g) w10 w19) := (BQ.out.mono (fun _ _ h => .inr h)).trans V11.out
      have V9 : Hid (Upd (fun i => i = w4.heap.size ∨ i = g) w9 w19) := (Upd.of_below B10.out).trans V10.out
      have V8 : Hid (Upd (fun i => i = w4.heap.size ∨ i = g) w8 w19) := (U9.out.mono (fun _ _ h => .inl h)).trans V9.out
      have V7 : Hid (Upd (fun i => i = w4.heap.size ∨ i = g) w7 w19) := (Upd.of_below B8.out).trans V8.out
      have V6 : Hid (Upd (fun i => i = w4.heap.size ∨ i = g) w6 w19) := (U7.out.mono (fun _ _ h => .inl h)).trans V7.out
      have V5 : Hid (Upd (fun i => i = w4.heap.size ∨ i = g) w5 w19) := (Upd.of_below B6.out).trans V6.out
      have V4 : Hid (Upd (fun i => i = w4.heap.size ∨ i = g) w4 w19) := (Upd.of_below B5.out).trans V5.out
      have V3 : Hid (Upd (fun i => i = w4.heap.size ∨ i = g) w3 w19) := (Upd.of_below B4.out).trans V4.out
      have V2 : Hid (Upd (fun i => i = w4.heap.size ∨ i = g) w2 w19) := (Upd.of_below B3.out).trans V3.out
      have q1 := C2.out.lt
      have q2 := M3.out.lt
      have q3 := A4.lt
      have q4 := T5.out.lt
      have q5 := P6.out.lt
      have q6 := P8.out.lt
      have q7 := D12.out.lt
      have q8 := X14.out.1
      have q9 := Y16.out.1
      have q10 := Z18.out.lt
      have s0 := B18.out.size
      have s1 := U17.out.size
      have s2 := B16.out.size
      have s3 := U15.out.size
      have s4 := BB14.out.size
      have s5 := U13.out.size
      have s6 := B12.out.size
      have s7 := BQ.out.size
      have s8 := B10.out.size
      have s9 := U9.out.size
      have s10 := B8.out.size
      have s11 := U7.out.size
      have s12 := B6.out.size
      have s13 := B5.out.size
      have s14 := B4.out.size
      have s15 := B3.out.size
      have s99 := V18.out.size
      have GX : ∀ k : Nat, w1.heap.size ≤ k → k ≠ w4.heap.size → ¬ (k = w4.heap.size ∨ k = g) := fun k h1 h2 h => by rcases h with h | h <;> omega
      have E0 : ∀ j u, j < 11 → (fun i => if i = 8 then Value.pointer (some ⟨w17.heap.size, 0, none⟩) else if i = 7 then .pointer (some ⟨w15.heap.size, 0, none⟩) else if i = 6 then .pointer (some ⟨w13.heap.size, 0, none⟩) else if i = 5 then .pointer (some ⟨w11.heap.size, 0, none⟩) else if i = 2 then .pointer (some ⟨w7.heap.size, 0, none⟩) else if i = 1 then .pointer (some ⟨w5.heap.size, 0, none⟩) else vs0 w1.heap.size w2.heap.size s al L.length cl i) j = u → w19.cell? ⟨w4.heap.size, j, none⟩ = some u := fun j u hj hu => by
        rw [← hu]
        exact (T19.out.at_ j hj).1
      have XX : RPrs w19.heap.size w14 w13.heap.size w11.heap.size 0 0 (.slice none 0 0) := ⟨X14.out.1, X14.out.2.1, X14.out.2.2.1, X14.out.2.2.2, OwnD.nil _ _, by omega, by omega, by omega⟩
      have YY : RPrs w19.heap.size w16 w15.heap.size w11.heap.size 0 0 (.slice none 0 0) := ⟨Y16.out.1, Y16.out.2.1, Y16.out.2.2.1, Y16.out.2.2.2, OwnD.nil _ _, by omega, by omega, by omega⟩
      have S19 : Hid (SS w19 w1.heap.size w4.heap.size w1.heap.size w5.heap.size w7.heap.size w2.heap.size s w11.heap.size w13.heap.size w15.heap.size w17.heap.size w19.heap.size L al cl at_ 0 0 0 0 sd 0 (.slice none 0 0) (.slice none 0 0) a5 c5) :=
        ⟨by omega, by omega, E0 0 _ (by omega) rfl, E0 1 _ (by omega) rfl, E0 2 _ (by omega) rfl, E0 3 _ (by omega) rfl, E0 4 _ (by omega) rfl, E0 5 _ (by omega) rfl, E0 6 _ (by omega) rfl, E0 7 _ (by omega) rfl, E0 8 _ (by omega) rfl, E0 9 _ (by omega) rfl, E0 10 _ (by omega) rfl, (T19.out.at_ 10 (by omega)).2,
          C2.out.upd V2.out (GX _ (by omega) (by omega)), P6.out.upd V6.out (GX _ (by omega) (by omega)), P8.out.upd V8.out (GX _ (by omega) (by omega)), M3.out.upd V3.out (GX _ (by omega) (by omega)), A4.upd V4.out (GX _ (by omega) (by omega)) (fun z hz => GX _ (by have := hz4 z hz; omega) (by have := A4.blk z hz; omega)), D12.out.upd V12.out (GX _ (by omega) (by omega)), XX.upd2 V14.out (GX _ (by omega) (by omega)) (fun k hk => by cases hk), YY.upd2 V16.out (GX _ (by omega) (by omega)) (fun k hk => by cases hk), Z18.out.upd V18.out (GX _ (by omega) (by omega)),
          L9.out.upd V9.out (fun x hx hn e => by have := LZ.out x hx hn; rcases e with e | e <;> omega), fun z hz hn => by have := LZ.out z hz hn; omega, fun z hz => ⟨by have := hz4 z hz; omega, A4.blk z hz, A4.ne z hz⟩, Nat.zero_le _, Nat.le_refl _, fun k hk => by cases hk⟩
      have BW : Hid (Below W.heap.size W w19) := B1.out.trans (((Below.trans (B2.out.mono z01) (V2.out.below (by omega) (fun i hi => by rcases hi with h | h <;> omega)))))
      obtain ⟨m5, g5⟩ := T12.out.at_ 5 (by omega)
      obtain ⟨m6, g6⟩ := T14.out.at_ 6 (by omega)
      obtain ⟨m7, g7⟩ := T16.out.at_ 7 (by omega)
      obtain ⟨m8, g8⟩ := T18.out.at_ 8 (by omega)
      have l5 := (T13.out.at_ 5 (by omega)).1
      have l6 := (T15.out.at_ 5 (by omega)).1
      simp [vs0] at m5 m6 m7 m8 l5 l6
      clear s0 s1 s2 s3 s4 s5 s6 s7 s8 s9 s10 s11 s12 s13 s14 s15 s99 q1 q2 q3 q4 q5 q6 q7 q8 q9 q10 GX E0 XX YY V2 V3 V4 V5 V6 V7 V8 V9 V10 V11 V12 V13 V14 V15 V16 V17 V18 A4 hs4 hz4 z14 hg1 hg2
      go_wp2
      clear hw12 hw13 hw14 hw15 hw16 hw17 hw18 hw19 m5 m6 m7 m8 g5 g6 g7 g8 l5 l6 T11 T12 T13 T14 T15 T16 T17 T18 T19 B12 U13 BB14 U15 B16 U17 B18 UU19 D12 X14 Y16 Z18 BQ T5 T6 T7 T8 T9 U7 U9 U49 B14 U19 L9 B10 hco P6 P8 C2 M3
      have h31 := H3.out.1
      have h32 := H3.out.2.1
      have LW : Hid (Left w19 w1.heap.size w4.heap.size w1.heap.size w5.heap.size w7.heap.size w2.heap.size s w11.heap.size w13.heap.size w15.heap.size w17.heap.size w19.heap.size L al cl w19) := ⟨_, _, _, _, _, _, _, _, _, _, _, S19.out, Below.refl _ _⟩
      go_loopw [14] (fun i wq => ∃ j : Nat, i = .int .i64 (j : Int) ∧ j ≤ len3 ∧ Hid (Left w19 w1.heap.size w4.heap.size w1.heap.size w5.heap.size w7.heap.size w2.heap.size s w11.heap.size w13.heap.size w15.heap.size w17.heap.size w19.heap.size L al cl wq)) (fun i _ => len3 - (intOf i).toNat)
      case atStart => exact ⟨0, rfl, Nat.zero_le _, LW⟩
      case round =>
        clear LW S19
        obtain ⟨j, rfl, hj, hS⟩ := hrel
        obtain ⟨R, rp, np, rq, nq, S, k, vx, vy, ax, cs, hs, hb⟩ := hS.out
        have HB := hide hb
        by_cases hlt : j < len3
        · obtain ⟨q3, o3, K, wh, N, rfl, hq3, c0, c1, c2, n0, n1⟩ := H3.out.2.2 j hlt
          have bl : Below W.heap.size W wr := BW.out.trans (hb.mono z01)
          have k0 := (bl.cell (p := ⟨q3, o3 + j * 3, none⟩) hq3).trans c0
          have k1 := (bl.cell (p := ⟨q3, o3 + j * 3 + 1, none⟩) hq3).trans c1
          have k2 := (bl.cell (p := ⟨q3, o3 + j * 3 + 2, none⟩) hq3).trans c2
          have SD := hide (does_any _ _ _ _ _ _ _ _ _ _ _ _ _ _ _ _ _ _ _ _ _ _ _ _ _ _ K wh N ⟨n0, n1⟩ wr hs)
          clear c0 c1 c2 bl hs hb hS n0 n1
          go_wp2_with fail
          refine SD.out.mono ?_
          rintro e w20 ⟨rfl, R', rp', np', rq', nq', S', k', vx', vy', ax', cs', hs', hb'⟩
          have LF : Hid (Left w19 w1.heap.size w4.heap.size w1.heap.size w5.heap.size w7.heap.size w2.heap.size s w11.heap.size w13.heap.size w15.heap.size w17.heap.size w19.heap.size L al cl w20) := ⟨_, _, _, _, _, _, _, _, _, _, _, hs', HB.out.trans hb'⟩
          dsimp only
          clear hs' hb' SD HB
          go_wp2
          go_round
          case rel => exact ⟨j + 1, by go_num, by omega, LF⟩
          case measure => simp [intOf]; omega
        · obtain rfl : j = len3 := by omega
          clear hb hS hlt
          have HS := hide hs
          clear hs
          go_wp2_with fail
          refine (does_any _ _ _ _ _ _ _ _ _ _ _ _ _ _ _ _ _ _ _ _ _ _ _ _ _ _ 2 false 0 ⟨by omega, by omega⟩ _ HS.out).mono ?_
          rintro e v1 ⟨rfl, R1, rp1, np1, rq1, nq1, S1, k1, vx1, vy1, ax1, cs1, hs1, hb1⟩
          dsimp only
          clear HS
          have HS := hide hs1
          have E1 := hide hb1
          clear hs1 hb1
          go_wp2_with fail
          refine (does_any _ _ _ _ _ _ _ _ _ _ _ _ _ _ _ _ _ _ _ _ _ _ _ _ _ _ 3 false 0 ⟨by omega, by omega⟩ _ HS.out).mono ?_
          rintro e v2 ⟨rfl, R2, rp2, np2, rq2, nq2, S2, k2, vx2, vy2, ax2, cs2, hs2, hb2⟩
          dsimp only
          clear HS
          have HS := hide hs2
          have E2 := hide hb2
          clear hs2 hb2
          go_wp2_with fail
          refine (does_any _ _ _ _ _ _ _ _ _ _ _ _ _ _ _ _ _ _ _ _ _ _ _ _ _ _ 3 true 0 ⟨by omega, by omega⟩ _ HS.out).mono ?_
          rintro e v3 ⟨rfl, R3, rp3, np3, rq3, nq3, S3, k3, vx3, vy3, ax3, cs3, hs3, hb3⟩
          dsimp only
          clear HS
          have HS := hide hs3
          have E3 := hide hb3
          clear hs3 hb3
          go_wp2_with fail
          refine (does_any _ _ _ _ _ _ _ _ _ _ _ _ _ _ _ _ _ _ _ _ _ _ _ _ _ _ 5 false 0 ⟨by omega, by omega⟩ _ HS.out).mono ?_
          rintro e v4 ⟨rfl, R4, rp4, np4, rq4, nq4, S4, k4, vx4, vy4, ax4, cs4, hs4, hb4⟩
          dsimp only
          clear HS
          have HS := hide hs4
          have E4 := hide hb4
          clear hs4 hb4
          go_wp2_with fail
          refine (does_any _ _ _ _ _ _ _ _ _ _ _ _ _ _ _ _ _ _ _ _ _ _ _ _ _ _ 7 false 0 ⟨by omega, by omega⟩ _ HS.out).mono ?_
          rintro e v5 ⟨rfl, R5, rp5, np5, rq5, nq5, S5, k5, vx5, vy5, ax5, cs5, hs5, hb5⟩
          dsimp only
          clear HS
          have HS := hide hs5
          have E5 := hide hb5
          clear hs5 hb5
          go_wp2
          go_ret
          exact ⟨rfl, BW.out.trans ((((((HB.out.trans E1.out).trans E2.out).trans E3.out).trans E4.out).trans E5.out).mono z01)⟩

end Go.Proofs.Ytdgelllmngdpkaa
