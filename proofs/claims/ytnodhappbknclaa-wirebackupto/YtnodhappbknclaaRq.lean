import Derived.Test.YtnodhappbknclaaRn
import Derived.Test.YtnodhappbknclaaOy
namespace Go.Proofs.Ytnodhappbknclaa
open Go.RowKit
set_option linter.unusedVariables false

/-- The reference's reader at the head of block b: its bytes, how far, its error. -/
structure QSt (w : World) (b : Nat) (a : Option Addr) (n c p : Nat) (err : Int) : Prop where
  lt : b < w.heap.size
  c0 : w.cell? ⟨b, 0, none⟩ = some (.slice a n c)
  c1 : w.cell? ⟨b, 1, none⟩ = some (.int .i64 p)
  c2 : w.cell? ⟨b, 2, none⟩ = some (.int .i64 err)
  f1 : w.frozen? ⟨b, 1, none⟩ = false
  f2 : w.frozen? ⟨b, 2, none⟩ = false
  le : p ≤ n
theorem QSt.later {w w' : World} {b : Nat} {a : Option Addr} {n c p : Nat} {E : Int} (h : QSt w b a n c p E) (hb : Below w.heap.size w w') : QSt w' b a n c p E :=
  ⟨Nat.lt_of_lt_of_le h.lt hb.size, cell_later hb h.c0, cell_later hb h.c1, cell_later hb h.c2, (hb.frozen (p := ⟨b, 1, none⟩) h.lt).trans h.f1, (hb.frozen (p := ⟨b, 2, none⟩) h.lt).trans h.f2, h.le⟩

theorem QSt.stepped {w : World} {b : Nat} {a : Option Addr} {n c p : Nat} {E : Int} (h : QSt w b a n c p E) (p' : Nat) (e' : Int) (k : Nat) (hp : p' ≤ n) : QSt (((w.drewN k).setCell ⟨b, 2, none⟩ (.int .i64 e')).setCell ⟨b, 1, none⟩ (.int .i64 (p' : Int))) b a n c p' e' := by
  obtain ⟨hlt, c0, c1, c2, f1, f2, hle⟩ := h
  refine ⟨?_, ?_, ?_, ?_, ?_, ?_, hp⟩
  all_goals go_simp
theorem QSt.failed {w : World} {b : Nat} {a : Option Addr} {n c p : Nat} {E : Int} (h : QSt w b a n c p E) (e' : Int) (k : Nat) : QSt ((w.drewN k).setCell ⟨b, 2, none⟩ (.int .i64 e')) b a n c p e' := by
  obtain ⟨hlt, c0, c1, c2, f1, f2, hle⟩ := h
  refine ⟨?_, ?_, ?_, ?_, ?_, ?_, hle⟩
  all_goals go_simp
theorem rn_quiet (a : Option Addr) (n c : Nat) (l : List Int) (p : Nat) (w : World) (k : Nat) (h : Hs w a n c l) (hm : n ≤ 9223372036854775807) (hp : p ≤ n) :
    Calls Try.prog 53 #[.slice a n c, .int .i64 p] (w.drewN k) fun e w' => e = .returned (.tuple #[.int .u64 (tnVal (l.drop p)), .int .i64 ((p + tnSize (l.drop p) : Nat) : Int), .int .i64 (tnErr (l.drop p))]) ∧ ∃ j, w' = w.drewN j := by
  refine (rn_any a n c l p (w.drewN k) (h.later (below_drewN (Below.refl _ _) k)) hm hp).mono ?_
  rintro e w' ⟨rfl, j, rfl⟩
  exact ⟨rfl, _, World.drewN_drewN _ _ _⟩

set_option maxRecDepth 100000 in
theorem rq_number (b : Nat) (a : Option Addr) (n c : Nat) (l : List Int) (p : Nat) (w : World) (h : QSt w b a n c p 0) (hh : Hs w a n c l) (hm : n ≤ 9223372036854775807) :
    Calls Try.prog 25 #[.pointer (some ⟨b, 0, none⟩)] w fun e w' => e = .returned (.int .u64 (tnVal (l.drop p))) ∧ QSt w' b a n c (p + tnSize (l.drop p)) (tnErr (l.drop p)) ∧ Only b w w' := by
  have HQS := hide h
  obtain ⟨hlt, c0, c1, c2, f1, f2, hle⟩ := h
  have HN := fun k => hide (rn_quiet a n c l p w k hh hm hle)
  have hsz := tnSize_le (l.drop p) (fun z hz => hh.byte z (List.mem_of_mem_drop hz))
  rw [List.length_drop, hh.len] at hsz
  have hbad := @tn_bad (l.drop p)
  clear hh
  by_cases hE : tnErr (l.drop p) = 0
  · rw [hE] at HN ⊢
    generalize tnVal (l.drop p) = V at *
    generalize tnSize (l.drop p) = S at *
    clear hbad hE
    obtain ⟨hs1, hs2⟩ := hsz
    go_enter Try.func25, Try.ntmps25
    go_wp2_with fail
    go_quiet ((go_at_call 53; exact (HN _).out))
    go_wp2
    go_ret
    have hq := HQS.out.stepped (p + S) 0 nq (by omega)
    have hbl : Only b w (((w.drewN nq).setCell ⟨b, 2, none⟩ (.int .i64 0)).setCell ⟨b, 1, none⟩ (.int .i64 ((p + S : Nat) : Int))) := (((Only.refl _ _).drewN nq).setCell _ _).setCell _ _
    exact ⟨rfl, hq, hbl⟩
  · obtain ⟨e1, e2⟩ := hbad hE
    rw [e1, e2] at HN ⊢
    have hb : (tnErr (l.drop p) != 0) = true := by simp [hE]
    generalize tnErr (l.drop p) = E at *
    clear hbad hE hsz
    go_enter Try.func25, Try.ntmps25
    go_wp2_with fail
    go_quiet ((go_at_call 53; exact (HN _).out))
    go_wp2
    go_ret
    exact ⟨rfl, HQS.out.failed E nq, ((Only.refl _ _).drewN nq).setCell _ _⟩
theorem rq_number_err (b : Nat) (a : Option Addr) (n c p : Nat) (E : Int) (w : World) (h : QSt w b a n c p E) (hE : E ≠ 0) :
    Calls Try.prog 25 #[.pointer (some ⟨b, 0, none⟩)] w fun e w' => e = .returned (.int .u64 0) ∧ w' = w := by
  obtain ⟨hlt, c0, c1, c2, f1, f2, hle⟩ := h
  have hb : (E != 0) = true := by simp [hE]
  go_enter Try.func25, Try.ntmps25
  go_wp2
  go_ret
  exact ⟨rfl, rfl⟩

set_option maxRecDepth 100000 in
theorem rq_end (b : Nat) (a : Option Addr) (n c p : Nat) (E : Int) (w : World) (h : QSt w b a n c p E) (hm : n ≤ 9223372036854775807) :
    Calls Try.prog 34 #[.pointer (some ⟨b, 0, none⟩)] w fun e w' => e = .returned (.int .i64 (endErr n p E)) ∧ ∃ k, w' = w.drewN k := by
  obtain ⟨hlt, c0, c1, c2, f1, f2, hle⟩ := h
  by_cases hE : E = 0
  · subst hE
    by_cases hp : p < n
    · have H : Hid (endErr n p 0 = 15) := by unfold endErr; rw [if_pos rfl, if_pos hp]; rfl
      go_enter Try.func34, Try.ntmps34
      go_wp2
      go_quiet (fail)
      go_wp2
      go_ret
      exact ⟨ret_int H.out.symm, _, rfl⟩
    · have H : Hid (endErr n p 0 = 0) := by unfold endErr; rw [if_pos rfl, if_neg hp]; rfl
      go_enter Try.func34, Try.ntmps34
      go_wp2
      go_quiet (fail)
      go_wp2
      go_ret
      exact ⟨ret_int H.out.symm, _, rfl⟩
  · have H : Hid (endErr n p E = E) := by unfold endErr; rw [if_neg hE]; rfl
    have hb : (E == 0) = false := by simp [hE]
    go_enter Try.func34, Try.ntmps34
    go_wp2
    go_quiet (fail)
    go_wp2
    go_ret
    exact ⟨ret_int H.out.symm, _, rfl⟩

set_option maxRecDepth 100000 in
theorem rq_int_err (b : Nat) (a : Option Addr) (n c p : Nat) (E m : Int) (w : World) (h : QSt w b a n c p E) (hE : E ≠ 0) :
    Calls Try.prog 27 #[.pointer (some ⟨b, 0, none⟩), .int .i64 m] w fun e w' => e = .returned (.int .i64 0) ∧ w' = w := by
  obtain ⟨hlt, c0, c1, c2, f1, f2, hle⟩ := h
  have hb : (E != 0) = true := by simp [hE]
  go_enter Try.func27, Try.ntmps27
  go_wp2
  go_ret
  exact ⟨rfl, rfl⟩
set_option maxRecDepth 100000 in
theorem rq_text_err (b : Nat) (a : Option Addr) (n c p : Nat) (E m : Int) (w : World) (h : QSt w b a n c p E) (hE : E ≠ 0) :
    Calls Try.prog 30 #[.pointer (some ⟨b, 0, none⟩), .int .i64 m] w fun e w' => e = .returned (.string (strOfNums [])) ∧ w' = w := by
  have HI := hide (rq_int_err b a n c p E m w h hE)
  obtain ⟨hlt, c0, c1, c2, f1, f2, hle⟩ := h
  have hb : (E != 0) = true := by simp [hE]
  go_enter Try.func30, Try.ntmps30
  go_wp2_with fail
  refine HI.out.mono ?_
  rintro e w' ⟨rfl, hw⟩
  rw [hw]
  clear hw HI
  go_wp2
  go_ret
  exact ⟨rfl, rfl⟩

set_option maxRecDepth 100000 in
set_option maxHeartbeats 1000000 in
theorem rq_int (b : Nat) (a : Option Addr) (n c : Nat) (l : List Int) (p : Nat) (m : Int) (q : m ≤ 9223372036854775807) (w : World) (h : QSt w b a n c p 0) (hh : Hs w a n c l) (hm : n ≤ 9223372036854775807) :
    Calls Try.prog 27 #[.pointer (some ⟨b, 0, none⟩), .int .i64 m] w fun e w' => e = .returned (.int .i64 (tcVal m (l.drop p))) ∧ QSt w' b a n c (p + tcSize m (l.drop p)) (tcErr m (l.drop p)) ∧ Only b w w' := by
  have HQS := hide h
  obtain ⟨hlt, c0, c1, c2, f1, f2, hle⟩ := h
  have HN := fun k => hide (rn_quiet a n c l p w k hh hm hle)
  have hsz := tnSize_le (l.drop p) (fun z hz => hh.byte z (List.mem_of_mem_drop hz))
  rw [List.length_drop, hh.len] at hsz
  obtain ⟨hs1, hs2⟩ := hsz
  clear hh
  have hbad := @tc_bad m (l.drop p)
  by_cases hm0 : m < 0
  · have H : tcErr m (l.drop p) = 3 := by unfold tcErr; rw [if_pos hm0]
    obtain ⟨e1, e2⟩ := hbad (by rw [H]; decide)
    rw [e1, e2, H]
    clear HN H e1 e2 hbad hs1 hs2
    go_enter Try.func27, Try.ntmps27
    go_wp2
    go_ret
    exact ⟨rfl, HQS.out.failed 3 0, (Only.refl _ _).setCell _ _⟩
  · obtain ⟨q0, rfl⟩ := Int.eq_ofNat_of_zero_le (Int.not_lt.1 hm0)
    clear hm0
    by_cases hE : tnErr (l.drop p) = 0
    · by_cases hV : q0 < tnVal (l.drop p)
      · have H : tcErr q0 (l.drop p) = 11 := by unfold tcErr; rw [if_neg (by omega), if_neg (by simp [hE]), if_pos (by omega)]
        obtain ⟨e1, e2⟩ := hbad (by rw [H]; decide)
        rw [e1, e2, H]
        rw [hE] at HN
        clear H e1 e2 hbad hE
        generalize tnVal (l.drop p) = V at *
        generalize tnSize (l.drop p) = S at *
        go_enter Try.func27, Try.ntmps27
        go_wp2_with fail
        go_quiet ((go_at_call 53; exact (HN _).out))
        go_wp2
        go_ret
        exact ⟨rfl, HQS.out.failed 11 nq, ((Only.refl _ _).drewN nq).setCell _ _⟩
      · have H : tcErr q0 (l.drop p) = 0 := by unfold tcErr; rw [if_neg (by omega), if_neg (by simp [hE]), if_neg (by omega)]
        have H1 : tcVal q0 (l.drop p) = tnVal (l.drop p) := by unfold tcVal; rw [if_pos H]
        have H2 : tcSize q0 (l.drop p) = tnSize (l.drop p) := by unfold tcSize; rw [if_pos H]
        rw [H, H1, H2]
        rw [hE] at HN
        clear H H1 H2 hbad hE
        generalize tnVal (l.drop p) = V at *
        generalize tnSize (l.drop p) = S at *
        go_enter Try.func27, Try.ntmps27
        go_wp2_with fail
        go_quiet ((go_at_call 53; exact (HN _).out))
        go_wp2
        go_ret
        have hq := HQS.out.stepped (p + S) 0 nq (by omega)
        have hbl : Only b w (((w.drewN nq).setCell ⟨b, 2, none⟩ (.int .i64 0)).setCell ⟨b, 1, none⟩ (.int .i64 ((p + S : Nat) : Int))) := (((Only.refl _ _).drewN nq).setCell _ _).setCell _ _
        exact ⟨rfl, hq, hbl⟩
    · have H : tcErr q0 (l.drop p) = tnErr (l.drop p) := by unfold tcErr; rw [if_neg (by omega), if_pos hE]
      obtain ⟨e1, e2⟩ := hbad (by rw [H]; exact hE)
      rw [e1, e2, H]
      have hb : (tnErr (l.drop p) != 0) = true := by simp [hE]
      have hb2 : (tnErr (l.drop p) == 0) = false := by simp [hE]
      clear H e1 e2 hbad hE
      generalize tnErr (l.drop p) = E at *
      generalize tnVal (l.drop p) = V at *
      generalize tnSize (l.drop p) = S at *
      go_enter Try.func27, Try.ntmps27
      go_wp2_with fail
      go_quiet ((go_at_call 53; exact (HN _).out))
      go_wp2
      go_ret
      exact ⟨rfl, HQS.out.failed E nq, ((Only.refl _ _).drewN nq).setCell _ _⟩
#print axioms rq_int

end Go.Proofs.Ytnodhappbknclaa
