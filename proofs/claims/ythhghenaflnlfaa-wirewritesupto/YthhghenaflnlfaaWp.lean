import Derived.Test.YthhghenaflnlfaaWl
import Derived.Test.YthhghenaflnlfaaRf
namespace Go.Proofs.Ythhghenaflnlfaa
open Go.RowKit
set_option linter.unusedVariables false

/-- What laying a thing down comes to: its error, its bytes. -/
def ptErr (K N m : Int) (s : ByteArray) : Int := if K = 0 then 0 else if K = 1 then (if N < 0 then 3 else 0) else if K = 2 then (if N < 0 ∨ m < 0 then 3 else if m < N then 11 else 0) else if m < 0 then 3 else if m < (s.size : Int) then 11 else 0
def ptBytes (K V N : Int) (s : ByteArray) : List Int := if K = 0 then M.form V.toNat else if K = 1 ∨ K = 2 then M.form N.toNat else M.form s.size ++ sb s
/-- A Writer in either state. -/
def WSt (w : World) (b : Nat) (l : List Int) (E : Int) : Prop := (E = 0 ∧ WOk w b l) ∨ (E ≠ 0 ∧ WBad w b E)
def putV (K V N m : Int) (s : ByteArray) : Value := .agg #[.int .i64 K, .int .u64 V, .int .i64 N, .int .i64 m, .string s]
theorem WBad.later {w w' : World} {b : Nat} {E : Int} (h : WBad w b E) (hb : Below w.heap.size w w') : WBad w' b E :=
  ⟨Nat.lt_of_lt_of_le h.lt hb.size, h.ne, cell_later hb h.c0, cell_later hb h.c1, cell_later hb h.c2, (hb.frozen (p := ⟨b, 0, none⟩) h.lt).trans h.f0, (hb.frozen (p := ⟨b, 1, none⟩) h.lt).trans h.f1, (hb.frozen (p := ⟨b, 2, none⟩) h.lt).trans h.f2⟩
theorem WOk.later {w w' : World} {b : Nat} {l : List Int} (h : WOk w b l) (hb : Below w.heap.size w w') : WOk w' b l := by
  rcases h with ⟨e, h⟩ | ⟨q, g, n, c, h⟩
  · exact .inl ⟨e, Nat.lt_of_lt_of_le h.lt hb.size, cell_later hb h.c0, cell_later hb h.c1, cell_later hb h.c2, (hb.frozen (p := ⟨b, 0, none⟩) h.lt).trans h.f0, (hb.frozen (p := ⟨b, 1, none⟩) h.lt).trans h.f1, (hb.frozen (p := ⟨b, 2, none⟩) h.lt).trans h.f2⟩
  · have lt : b < w.heap.size := Nat.lt_trans h.lt h.ltq
    exact .inr ⟨q, g, n, c, h.lt, Nat.lt_of_lt_of_le h.ltq hb.size, h.len, cell_later hb h.c0, cell_later hb h.c1, cell_later hb h.c2, (hb.frozen (p := ⟨b, 0, none⟩) lt).trans h.f0, (hb.frozen (p := ⟨b, 1, none⟩) lt).trans h.f1, (hb.frozen (p := ⟨b, 2, none⟩) lt).trans h.f2, cell_later hb h.cq, (hb.frozen (p := ⟨q, 0, none⟩) h.ltq).trans h.fq, h.own.kept hb⟩

set_option maxHeartbeats 1000000 in
theorem lay_bad (b : Nat) (E : Int) (K V N m : Int) (s : ByteArray) (w : World) (h : WBad w b E) :
    Calls Try.prog 7 #[.pointer (some ⟨b, 0, none⟩), putV K V N m s] w fun e w' => e = .returned (.tuple #[]) ∧ WBad w' b E ∧ Below w.heap.size w w' := by
  have H0 := fun w' hb => hide (number_bad b E V w' (h.later hb))
  have H1 := fun w' hb => hide (int_bad b E N w' (h.later hb))
  have H2 := fun w' hb => hide (count_bad b E N m w' (h.later hb))
  have H3 := fun w' hb => hide (text_bad b E s m w' (h.later hb))
  have HW := hide h
  clear h
  unfold putV
  by_cases hK0 : K = 0
  · subst hK0
    go_enter Try.func7, Try.ntmps7
    go_wp2_with fail
    refine (H0 _ ((Below.refl _ _).alloc (Nat.le_refl _) _)).out.mono ?_
    rintro e w1 ⟨rfl, hx⟩
    rw [hx]
    clear hx H0 H1 H2 H3
    have hb1 := (Below.refl w.heap.size w).alloc (Nat.le_refl _) (Obj.cells #[.int .i64 0, .int .u64 V, .int .i64 N, .int .i64 m, .string s] 35)
    go_wp2
    go_end0
    exact ⟨rfl, HW.out.later hb1, hb1⟩
  · have n0 : (K == 0) = false := by simp [hK0]
    by_cases hK1 : K = 1
    · subst hK1
      go_enter Try.func7, Try.ntmps7
      go_wp2_with fail
      refine (H1 _ ((Below.refl _ _).alloc (Nat.le_refl _) _)).out.mono ?_
      rintro e w1 ⟨rfl, hx⟩
      rw [hx]
      clear hx H0 H1 H2 H3
      have hb1 := (Below.refl w.heap.size w).alloc (Nat.le_refl _) (Obj.cells #[.int .i64 1, .int .u64 V, .int .i64 N, .int .i64 m, .string s] 35)
      go_wp2
      go_end0
      exact ⟨rfl, HW.out.later hb1, hb1⟩
    · have n1 : (K == 1) = false := by simp [hK1]
      by_cases hK2 : K = 2
      · subst hK2
        go_enter Try.func7, Try.ntmps7
        go_wp2_with fail
        refine (H2 _ ((Below.refl _ _).alloc (Nat.le_refl _) _)).out.mono ?_
        rintro e w1 ⟨rfl, hx⟩
        rw [hx]
        clear hx H0 H1 H2 H3
        have hb1 := (Below.refl w.heap.size w).alloc (Nat.le_refl _) (Obj.cells #[.int .i64 2, .int .u64 V, .int .i64 N, .int .i64 m, .string s] 35)
        go_wp2
        go_end0
        exact ⟨rfl, HW.out.later hb1, hb1⟩
      · have n2 : (K == 2) = false := by simp [hK2]
        clear hK0 hK1 hK2
        go_enter Try.func7, Try.ntmps7
        go_wp2_with fail
        refine (H3 _ ((Below.refl _ _).alloc (Nat.le_refl _) _)).out.mono ?_
        rintro e w1 ⟨rfl, hx⟩
        rw [hx]
        clear hx H0 H1 H2 H3
        have hb1 := (Below.refl w.heap.size w).alloc (Nat.le_refl _) (Obj.cells #[.int .i64 K, .int .u64 V, .int .i64 N, .int .i64 m, .string s] 35)
        go_wp2
        go_end0
        exact ⟨rfl, HW.out.later hb1, hb1⟩

set_option maxHeartbeats 1000000 in
theorem lay_ok (B b : Nat) (l : List Int) (K V N m : Int) (s : ByteArray) (w : World) (hB : B ≤ b) (h : WOk w b l) (hV0 : 0 ≤ V) (hV : V < 18446744073709551616) (hN : N ≤ 9223372036854775807) (hl : l.length + 9 + s.size ≤ 140737488355328) :
    Calls Try.prog 7 #[.pointer (some ⟨b, 0, none⟩), putV K V N m s] w fun e w' => e = .returned (.tuple #[]) ∧ WSt w' b (l ++ ptBytes K V N s) (ptErr K N m s) ∧ Below B w w' := by
  have hbs := h.cells.1
  have HW := hide h
  clear h
  unfold putV
  by_cases hK0 : K = 0
  · subst hK0
    obtain ⟨v, rfl⟩ := Int.eq_ofNat_of_zero_le hV0
    go_enter Try.func7, Try.ntmps7
    go_wp2_with fail
    have hb1 := (Below.refl w.heap.size w).alloc (Nat.le_refl _) (Obj.cells #[.int .i64 0, .int .u64 v, .int .i64 N, .int .i64 m, .string s] 35)
    have hbB : Below B w _ := hb1.mono (by omega)
    refine (number_ok B b l v _ hB (HW.out.later hb1) (by omega) (by omega)).mono ?_
    rintro e w1 ⟨rfl, h1, h2⟩
    have hb2 := hbB.trans h2
    clear hb1 hbB h2
    go_wp2
    go_end0
    exact ⟨rfl, .inl ⟨rfl, h1⟩, hb2⟩
  · have n0 : (K == 0) = false := by simp [hK0]
    by_cases hK1 : K = 1
    · subst hK1
      by_cases hn : N < 0
      · have HE : Hid (ptErr 1 N m s = 3) := by unfold ptErr; rw [if_neg (by decide), if_pos rfl, if_pos hn]; rfl
        go_enter Try.func7, Try.ntmps7
        go_wp2_with fail
        have hb1 := (Below.refl w.heap.size w).alloc (Nat.le_refl _) (Obj.cells #[.int .i64 1, .int .u64 V, .int .i64 N, .int .i64 m, .string s] 35)
        have hbB : Below B w _ := hb1.mono (by omega)
        refine (int_arg B b l N _ hB (HW.out.later hb1) hn).mono ?_
        rintro e w1 ⟨rfl, h1, h2⟩
        have hb2 := hbB.trans h2
        clear hb1 hbB h2
        go_wp2
        go_end0
        exact ⟨rfl, .inr ⟨by rw [HE.out]; decide, by rw [HE.out]; exact h1⟩, hb2⟩
      · obtain ⟨x, rfl⟩ := Int.eq_ofNat_of_zero_le (Int.not_lt.1 hn)
        have HE : Hid (ptErr 1 x m s = 0) := by unfold ptErr; rw [if_neg (by decide), if_pos rfl, if_neg hn]; rfl
        clear hn
        go_enter Try.func7, Try.ntmps7
        go_wp2_with fail
        have hb1 := (Below.refl w.heap.size w).alloc (Nat.le_refl _) (Obj.cells #[.int .i64 1, .int .u64 V, .int .i64 x, .int .i64 m, .string s] 35)
        have hbB : Below B w _ := hb1.mono (by omega)
        refine (int_ok B b l x _ hB (HW.out.later hb1) (by omega) (by omega)).mono ?_
        rintro e w1 ⟨rfl, h1, h2⟩
        have hb2 := hbB.trans h2
        clear hb1 hbB h2
        go_wp2
        go_end0
        exact ⟨rfl, .inl ⟨HE.out, h1⟩, hb2⟩
    · have n1 : (K == 1) = false := by simp [hK1]
      by_cases hK2 : K = 2
      · subst hK2
        by_cases hn : N < 0
        · have HE : Hid (ptErr 2 N m s = 3) := by unfold ptErr; rw [if_neg (by decide), if_neg (by decide), if_pos rfl, if_pos (.inl hn)]; rfl
          go_enter Try.func7, Try.ntmps7
          go_wp2_with fail
          have hb1 := (Below.refl w.heap.size w).alloc (Nat.le_refl _) (Obj.cells #[.int .i64 2, .int .u64 V, .int .i64 N, .int .i64 m, .string s] 35)
          have hbB : Below B w _ := hb1.mono (by omega)
          refine (count_arg B b l N m _ hB (HW.out.later hb1) hn).mono ?_
          rintro e w1 ⟨rfl, h1, h2⟩
          have hb2 := hbB.trans h2
          clear hb1 hbB h2
          go_wp2
          go_end0
          exact ⟨rfl, .inr ⟨by rw [HE.out]; decide, by rw [HE.out]; exact h1⟩, hb2⟩
        · by_cases hm : m < 0
          · have HE : Hid (ptErr 2 N m s = 3) := by unfold ptErr; rw [if_neg (by decide), if_neg (by decide), if_pos rfl, if_pos (.inr hm)]; rfl
            go_enter Try.func7, Try.ntmps7
            go_wp2_with fail
            have hb1 := (Below.refl w.heap.size w).alloc (Nat.le_refl _) (Obj.cells #[.int .i64 2, .int .u64 V, .int .i64 N, .int .i64 m, .string s] 35)
            have hbB : Below B w _ := hb1.mono (by omega)
            refine (count_arg2 B b l N m _ hB (HW.out.later hb1) (by omega) (by omega)).mono ?_
            rintro e w1 ⟨rfl, h1, h2⟩
            have hb2 := hbB.trans h2
            clear hb1 hbB h2
            go_wp2
            go_end0
            exact ⟨rfl, .inr ⟨by rw [HE.out]; decide, by rw [HE.out]; exact h1⟩, hb2⟩
          · by_cases hmn : m < N
            · have HE : Hid (ptErr 2 N m s = 11) := by unfold ptErr; rw [if_neg (by decide), if_neg (by decide), if_pos rfl, if_neg (by omega), if_pos hmn]; rfl
              go_enter Try.func7, Try.ntmps7
              go_wp2_with fail
              have hb1 := (Below.refl w.heap.size w).alloc (Nat.le_refl _) (Obj.cells #[.int .i64 2, .int .u64 V, .int .i64 N, .int .i64 m, .string s] 35)
              have hbB : Below B w _ := hb1.mono (by omega)
              refine (count_long B b l N m _ hB (HW.out.later hb1) (by omega) (by omega) (by omega)).mono ?_
              rintro e w1 ⟨rfl, h1, h2⟩
              have hb2 := hbB.trans h2
              clear hb1 hbB h2
              go_wp2
              go_end0
              exact ⟨rfl, .inr ⟨by rw [HE.out]; decide, by rw [HE.out]; exact h1⟩, hb2⟩
            · have HE : Hid (ptErr 2 N m s = 0) := by unfold ptErr; rw [if_neg (by decide), if_neg (by decide), if_pos rfl, if_neg (by omega), if_neg hmn]; rfl
              obtain ⟨x, rfl⟩ := Int.eq_ofNat_of_zero_le (Int.not_lt.1 hn)
              obtain ⟨y, rfl⟩ := Int.eq_ofNat_of_zero_le (Int.not_lt.1 hm)
              have hxy : x ≤ y := by omega
              clear hn hm hmn
              go_enter Try.func7, Try.ntmps7
              go_wp2_with fail
              have hb1 := (Below.refl w.heap.size w).alloc (Nat.le_refl _) (Obj.cells #[.int .i64 2, .int .u64 V, .int .i64 x, .int .i64 y, .string s] 35)
              have hbB : Below B w _ := hb1.mono (by omega)
              refine (count_ok B b l x y _ hB (HW.out.later hb1) (by omega) hxy (by omega)).mono ?_
              rintro e w1 ⟨rfl, h1, h2⟩
              have hb2 := hbB.trans h2
              clear hb1 hbB h2
              go_wp2
              go_end0
              exact ⟨rfl, .inl ⟨HE.out, h1⟩, hb2⟩
      · have n2 : (K == 2) = false := by simp [hK2]
        have HB : Hid (ptBytes K V N s = M.form s.size ++ sb s) := by unfold ptBytes; rw [if_neg hK0, if_neg (by omega)]; rfl
        by_cases hm : m < 0
        · have HE : Hid (ptErr K N m s = 3) := by unfold ptErr; rw [if_neg hK0, if_neg hK1, if_neg hK2, if_pos hm]; rfl
          clear hK0 hK1 hK2
          go_enter Try.func7, Try.ntmps7
          go_wp2_with fail
          have hb1 := (Below.refl w.heap.size w).alloc (Nat.le_refl _) (Obj.cells #[.int .i64 K, .int .u64 V, .int .i64 N, .int .i64 m, .string s] 35)
          have hbB : Below B w _ := hb1.mono (by omega)
          refine (text_arg B b l s m _ hB (HW.out.later hb1) hm).mono ?_
          rintro e w1 ⟨rfl, h1, h2⟩
          have hb2 := hbB.trans h2
          clear hb1 hbB h2
          go_wp2
          go_end0
          exact ⟨rfl, .inr ⟨by rw [HE.out]; decide, by rw [HE.out]; exact h1⟩, hb2⟩
        · by_cases hmn : m < (s.size : Int)
          · have HE : Hid (ptErr K N m s = 11) := by unfold ptErr; rw [if_neg hK0, if_neg hK1, if_neg hK2, if_neg hm, if_pos hmn]; rfl
            clear hK0 hK1 hK2
            go_enter Try.func7, Try.ntmps7
            go_wp2_with fail
            have hb1 := (Below.refl w.heap.size w).alloc (Nat.le_refl _) (Obj.cells #[.int .i64 K, .int .u64 V, .int .i64 N, .int .i64 m, .string s] 35)
            have hbB : Below B w _ := hb1.mono (by omega)
            refine (text_long B b l s m _ hB (HW.out.later hb1) (by omega) (by omega)).mono ?_
            rintro e w1 ⟨rfl, h1, h2⟩
            have hb2 := hbB.trans h2
            clear hb1 hbB h2
            go_wp2
            go_end0
            exact ⟨rfl, .inr ⟨by rw [HE.out]; decide, by rw [HE.out]; exact h1⟩, hb2⟩
          · have HE : Hid (ptErr K N m s = 0) := by unfold ptErr; rw [if_neg hK0, if_neg hK1, if_neg hK2, if_neg hm, if_neg hmn]; rfl
            obtain ⟨y, rfl⟩ := Int.eq_ofNat_of_zero_le (Int.not_lt.1 hm)
            have hxy : s.size ≤ y := by omega
            clear hK0 hK1 hK2 hm hmn
            go_enter Try.func7, Try.ntmps7
            go_wp2_with fail
            have hb1 := (Below.refl w.heap.size w).alloc (Nat.le_refl _) (Obj.cells #[.int .i64 K, .int .u64 V, .int .i64 N, .int .i64 y, .string s] 35)
            have hbB : Below B w _ := hb1.mono (by omega)
            refine (text_ok B b l s y _ hB (HW.out.later hb1) hxy (by omega)).mono ?_
            rintro e w1 ⟨rfl, h1, h2⟩
            have hb2 := hbB.trans h2
            clear hb1 hbB h2
            go_wp2
            go_end0
            exact ⟨rfl, .inl ⟨HE.out, by rw [HB.out, ← List.append_assoc]; exact h1⟩, hb2⟩
#print axioms lay_ok

end Go.Proofs.Ythhghenaflnlfaa
