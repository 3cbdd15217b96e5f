import Derived.Test.YtegfbebhgihcaaaNku
import Derived.Test.YtegfbebhgihcaaaNkg
namespace Go.Proofs.Ytegfbebhgihcaaa
open Go.RowKit Go.Maps
set_option linter.unusedVariables false
set_option linter.unusedSimpArgs false

theorem copy_bad {w : World} {b mb n : Nat} {nn cc : Int} {pv rv : Value} {P R : List Pk} {M : Int → List UInt8 → Nat} (k : Int) (h : Net w b nn cc pv rv mb n P R M) (hk : k < 0 ∨ (P.length : Int) ≤ k) : Calls Try.prog 28 #[.pointer (some ⟨b, 0, none⟩), .int .i64 k] w fun e w' => e = .returned (.int .i64 141) ∧ w' = w := by
  have c2 := h.c2
  obtain ⟨a, c, rfl, hsl⟩ := h.pl.sl
  have HW : ∀ v, Hid (Calls Try.prog 77 #[.int .i64 k, .int .i64 (P.length : Int)] v fun e w' => e = .returned (.bool false) ∧ w' = v) := fun v => by
    have := isWithin_any k (P.length : Int) v
    have e : (decide (0 ≤ k) && decide (k < (P.length : Int))) = false := by simp; omega
    rw [e] at this
    exact this
  clear h hsl hk
  go_enter Try.func28, Try.ntmps28
  go_wp2_with fail
  refine (HW _).out.mono ?_
  rintro e w1 ⟨rfl, hy_⟩
  rw [hy_]; clear hy_ w1
  go_wp2
  go_ret
  exact ⟨rfl, rfl⟩
/-- A net of three and two whose blocks lie from B on and are none of A. -/
structure NG (A : Nat → Prop) (B : Nat) (w : World) (b : Nat) (P : List Pk) (rl : Nat) (M : Int → List UInt8 → Nat) : Prop where
  ex : ∃ pv rv mb n R, Net w b 3 2 pv rv mb n P R M ∧ B ≤ b ∧ B ≤ mb ∧ (∀ g, pv.ownBlock = some g → B ≤ g) ∧ (∀ g, rv.ownBlock = some g → B ≤ g) ∧ R.length ≤ rl ∧ (∀ j, A j → j ≠ b ∧ j ≠ mb ∧ pv.ownBlock ≠ some j ∧ rv.ownBlock ≠ some j ∧ j < w.heap.size)
/-- Nothing but what lies from B on and is not of A has changed. -/
def UN (A : Nat → Prop) (B : Nat) (w w' : World) : Prop := Upd (fun k => B ≤ k ∧ ¬ A k) w w'
variable {A : Nat → Prop} {B rl : Nat} {w w' : World} {b mb n : Nat} {nn cc : Int} {pv rv : Value} {P P' R : List Pk} {M : Int → List UInt8 → Nat}
theorem NG.later {A' : Nat → Prop} (h : NG A B w b P rl M) (hb : Below w.heap.size w w') (hA : ∀ j, A' j → A j ∨ (w.heap.size ≤ j ∧ j < w'.heap.size)) : NG A' B w' b P rl M := by
  obtain ⟨pv, rv, mb, n, R, h1, h2, h3, h4, h5, h6, h7⟩ := h.ex
  refine ⟨pv, rv, mb, n, R, h1.later hb, h2, h3, h4, h5, h6, fun j hj => ?_⟩
  rcases hA j hj with e | ⟨e1, e2⟩
  · obtain ⟨k1, k2, k3, k4, k5⟩ := h7 j e
    exact ⟨k1, k2, k3, k4, Nat.lt_of_lt_of_le k5 hb.size⟩
  · exact ⟨by have := h1.lt; omega, by have := h1.mp.lt; omega, fun e => by have := h1.plt j e; omega, fun e => by have := (h1.rc.blk j e).2; omega, e2⟩
theorem NG.step (h : NG A B w b P rl M) (hb : Below w.heap.size w w') : NG A B w' b P rl M := h.later hb (fun j hj => .inl hj)
/-- A change of what is of A. -/
theorem NG.side (h : NG A B w b P rl M) {S : Nat → Prop} (u : Upd S w w') (hs : ∀ k, S k → A k) : NG A B w' b P rl M := by
  obtain ⟨pv, rv, mb, n, R, h1, h2, h3, h4, h5, h6, h7⟩ := h.ex
  exact ⟨pv, rv, mb, n, R, h1.upd u (fun e => (h7 _ (hs _ e)).1 rfl) (fun e => (h7 _ (hs _ e)).2.1 rfl) (fun k hk e => (h7 _ (hs _ e)).2.2.1 hk) (fun k hk e => (h7 _ (hs _ e)).2.2.2.1 hk), h2, h3, h4, h5, h6, fun j hj => ⟨(h7 j hj).1, (h7 j hj).2.1, (h7 j hj).2.2.1, (h7 j hj).2.2.2.1, Nat.lt_of_lt_of_le (h7 j hj).2.2.2.2 u.size⟩⟩
theorem NG.blt (h : NG A B w b P rl M) : b < w.heap.size ∧ B ≤ b := by
  obtain ⟨pv, rv, mb, n, R, h1, h2, _⟩ := h.ex
  exact ⟨h1.lt, h2⟩
theorem NG.sp (h : NG A B w b P rl M) : ∀ p ∈ P, p.s.length ≤ 32768 := by
  obtain ⟨pv, rv, mb, n, R, h1, _⟩ := h.ex
  exact h1.sp
theorem ng_next {pv' : Value} (h1 : Net w b 3 2 pv rv mb n P R M) (h2 : B ≤ b) (h3 : B ≤ mb) (h4 : ∀ g, pv.ownBlock = some g → B ≤ g) (h5 : ∀ g, rv.ownBlock = some g → B ≤ g) (h6 : R.length ≤ rl) (h7 : ∀ j, A j → j ≠ b ∧ j ≠ mb ∧ pv.ownBlock ≠ some j ∧ rv.ownBlock ≠ some j ∧ j < w.heap.size)
    (N : Net w' b 3 2 pv' rv mb n P' R M) (U : Upd (fun k => k = b ∨ pv.ownBlock = some k) w w') (n' : pv'.ownBlock = pv.ownBlock ∨ pv'.ownBlock = none ∨ ∃ k, pv'.ownBlock = some k ∧ w.heap.size ≤ k) (hB : B ≤ w.heap.size) : NG A B w' b P' rl M ∧ UN A B w w' := by
  refine ⟨⟨pv', rv, mb, n, R, N, h2, h3, fun g hg => ?_, h5, h6, fun j hj => ?_⟩, U.mono (fun k _ hk => ?_)⟩
  · rcases n' with e | e | ⟨k, e, hk⟩
    · exact h4 g (e ▸ hg)
    · rw [e] at hg; cases hg
    · rw [e] at hg; cases hg; omega
  · obtain ⟨k1, k2, k3, k4, k5⟩ := h7 j hj
    refine ⟨k1, k2, fun e' => ?_, k4, Nat.lt_of_lt_of_le k5 U.size⟩
    rcases n' with e | e | ⟨k, e, hk⟩
    · exact k3 (e ▸ e')
    · rw [e] at e'; cases e'
    · rw [e] at e'; cases e'; omega
  · rcases hk with rfl | hk
    · exact ⟨h2, fun ha => (h7 _ ha).1 rfl⟩
    · exact ⟨h4 k hk, fun ha => (h7 _ ha).2.2.1 hk⟩
theorem ng_copy (k : Int) (h : NG A B w b P rl M) (hB : B ≤ w.heap.size) (hl : (P.length + 1) * 32 ≤ 168884986026393) : Calls Try.prog 28 #[.pointer (some ⟨b, 0, none⟩), .int .i64 k] w fun e w' => ∃ r P', e = .returned (.int .i64 r) ∧ NG A B w' b P' rl M ∧ UN A B w w' ∧ P'.length ≤ P.length + 1 ∧ ∀ p ∈ P', p ∈ P := by
  obtain ⟨pv, rv, mb, n, R, h1, h2, h3, h4, h5, h6, h7⟩ := h.ex
  by_cases hk : 0 ≤ k ∧ k < P.length
  · obtain ⟨j, rfl⟩ := Int.eq_ofNat_of_zero_le hk.1
    have hj : j < P.length := by omega
    refine (copy_ok j P[j] h1 (List.getElem?_eq_getElem hj) hl).mono ?_
    rintro e w' ⟨rfl, pv', N, U, n'⟩
    obtain ⟨a1, a2⟩ := ng_next h1 h2 h3 h4 h5 h6 h7 N U (n'.imp id .inr) hB
    refine ⟨0, _, rfl, a1, a2, by simp, fun p hp => ?_⟩
    rcases List.mem_append.1 hp with hp | hp
    · exact hp
    · rw [List.mem_singleton.1 hp]; exact List.getElem_mem _
  · refine (copy_bad k h1 (by omega)).mono ?_
    rintro e w' ⟨rfl, hw⟩
    subst hw
    exact ⟨141, P, rfl, h, Upd.refl _ _, by omega, fun p hp => hp⟩
theorem dr_mem {α : Type} {L : List α} {k : Nat} {p : α} (h : p ∈ dr L k) : p ∈ L := by
  unfold dr at h
  rcases List.mem_append.1 h with h | h
  · exact List.mem_of_mem_take h
  · exact List.mem_of_mem_drop h
theorem dr_le {α : Type} (L : List α) (k : Nat) : (dr L k).length ≤ L.length := by
  unfold dr
  rw [List.length_append, List.length_take, List.length_drop]
  omega
theorem ng_drop (k : Int) (h : NG A B w b P rl M) (hB : B ≤ w.heap.size) (hl : P.length * 32 ≤ 168884986026393) : Calls Try.prog 29 #[.pointer (some ⟨b, 0, none⟩), .int .i64 k] w fun e w' => ∃ r P', e = .returned (.int .i64 r) ∧ NG A B w' b P' rl M ∧ UN A B w w' ∧ P'.length ≤ P.length ∧ ∀ p ∈ P', p ∈ P := by
  obtain ⟨pv, rv, mb, n, R, h1, h2, h3, h4, h5, h6, h7⟩ := h.ex
  by_cases hk : 0 ≤ k ∧ k < P.length
  · obtain ⟨j, rfl⟩ := Int.eq_ofNat_of_zero_le hk.1
    have hj : j < P.length := by omega
    refine (drop_ok j h1 hj hl).mono ?_
    rintro e w' ⟨rfl, pv', N, U, n'⟩
    obtain ⟨a1, a2⟩ := ng_next h1 h2 h3 h4 h5 h6 h7 N (U.mono (fun k _ hk => .inl hk)) (n'.imp id .inr) hB
    exact ⟨0, _, rfl, a1, a2, dr_le _ _, fun p hp => dr_mem hp⟩
  · refine (drop_bad k h1 (by omega)).mono ?_
    rintro e w' ⟨rfl, hw⟩
    subst hw
    exact ⟨141, P, rfl, h, Upd.refl _ _, by omega, fun p hp => hp⟩
theorem mem_set8 {α : Type} {L : List α} {k : Nat} {x p : α} (h : p ∈ L.set k x) : p ∈ L ∨ p = x := List.mem_or_eq_of_mem_set h
theorem ng_swap (i k : Int) (h : NG A B w b P rl M) (hB : B ≤ w.heap.size) (hl : P.length * 32 ≤ 168884986026393) : Calls Try.prog 31 #[.pointer (some ⟨b, 0, none⟩), .int .i64 i, .int .i64 k] w fun e w' => ∃ r P', e = .returned (.int .i64 r) ∧ NG A B w' b P' rl M ∧ UN A B w w' ∧ P'.length ≤ P.length ∧ ∀ p ∈ P', p ∈ P := by
  obtain ⟨pv, rv, mb, n, R, h1, h2, h3, h4, h5, h6, h7⟩ := h.ex
  by_cases hk : (0 ≤ i ∧ i < P.length) ∧ (0 ≤ k ∧ k < P.length)
  · obtain ⟨j, rfl⟩ := Int.eq_ofNat_of_zero_le hk.1.1
    obtain ⟨m, rfl⟩ := Int.eq_ofNat_of_zero_le hk.2.1
    have hj : j < P.length := by omega
    have hm : m < P.length := by omega
    refine (swap_ok j m P[j] P[m] h1 (List.getElem?_eq_getElem hj) (List.getElem?_eq_getElem hm) hl).mono ?_
    rintro e w' ⟨rfl, pv', N, U, g, e1, e2⟩
    obtain ⟨a1, a2⟩ := ng_next h1 h2 h3 h4 h5 h6 h7 N (U.mono (fun k _ hk => .inl hk)) (.inr (.inr ⟨g, e1, e2⟩)) hB
    refine ⟨0, _, rfl, a1, a2, by simp, fun p hp => ?_⟩
    rcases mem_set8 hp with hp | rfl
    · rcases mem_set8 hp with hp | rfl
      · exact hp
      · exact List.getElem_mem _
    · exact List.getElem_mem _
  · refine (swap_bad i k h1 (by omega)).mono ?_
    rintro e w' ⟨rfl, hw⟩
    subst hw
    exact ⟨141, P, rfl, h, Upd.refl _ _, by omega, fun p hp => hp⟩
theorem tn0 (x : Pk) (at_ : Nat) (h : at_ < x.s.length) : tnP x at_ 0 = x := by
  obtain ⟨t, s, f⟩ := x
  unfold tnP
  dsimp only at h ⊢
  rw [List.getElem?_eq_getElem h]
  simp only [Option.getD_some]
  rw [UInt8.xor_zero, List.set_getElem_self]
theorem ng_turn (k at_ : Int) (m : UInt8) (h : NG A B w b P rl M) (hB : B ≤ w.heap.size) (hl : P.length * 32 ≤ 168884986026393) : Calls Try.prog 30 #[.pointer (some ⟨b, 0, none⟩), .int .i64 k, .int .i64 at_, .int .u8 (m.toNat : Int)] w fun e w' => ∃ r P', e = .returned (.int .i64 r) ∧ NG A B w' b P' rl M ∧ UN A B w w' ∧ P'.length ≤ P.length ∧ (m = 0 → ∀ p ∈ P', p ∈ P) := by
  obtain ⟨pv, rv, mb, n, R, h1, h2, h3, h4, h5, h6, h7⟩ := h.ex
  by_cases hk : 0 ≤ k ∧ k < P.length
  · obtain ⟨j, rfl⟩ := Int.eq_ofNat_of_zero_le hk.1
    have hj : j < P.length := by omega
    have hg := List.getElem?_eq_getElem hj
    generalize P[j] = x at hg
    by_cases ha : 0 ≤ at_ ∧ at_ < x.s.length
    · obtain ⟨i, rfl⟩ := Int.eq_ofNat_of_zero_le ha.1
      have hi : i < x.s.length := by omega
      refine (turn_ok j i m x h1 hg hi hl).mono ?_
      rintro e w' ⟨rfl, pv', N, U, g, e1, e2⟩
      obtain ⟨a1, a2⟩ := ng_next h1 h2 h3 h4 h5 h6 h7 N (U.mono (fun k _ hk => .inl hk)) (.inr (.inr ⟨g, e1, e2⟩)) hB
      refine ⟨0, _, rfl, a1, a2, by simp, fun hm p hp => ?_⟩
      subst hm
      rw [tn0 x i hi] at hp
      rcases mem_set8 hp with hp | rfl
      · exact hp
      · exact List.mem_of_getElem? hg
    · refine (turn_byte j at_ _ x h1 hg (by omega)).mono ?_
      rintro e w' ⟨rfl, hw⟩
      subst hw
      exact ⟨143, P, rfl, h, Upd.refl _ _, Nat.le_refl _, fun _ p hp => hp⟩
  · refine (turn_bad k at_ _ h1 (by omega)).mono ?_
    rintro e w' ⟨rfl, hw⟩
    subst hw
    exact ⟨141, P, rfl, h, Upd.refl _ _, Nat.le_refl _, fun _ p hp => hp⟩
theorem ng_clear (h : NG A B w b P rl M) (hB : B ≤ w.heap.size) : Calls Try.prog 32 #[.pointer (some ⟨b, 0, none⟩)] w fun e w' => e = .returned (.tuple #[]) ∧ NG A B w' b [] rl M ∧ UN A B w w' := by
  obtain ⟨pv, rv, mb, n, R, h1, h2, h3, h4, h5, h6, h7⟩ := h.ex
  refine (clear_any h1).mono ?_
  rintro e w' ⟨rfl, N, U⟩
  obtain ⟨a1, a2⟩ := ng_next h1 h2 h3 h4 h5 h6 h7 N (U.mono (fun k _ hk => .inl hk)) (.inr (.inl rfl)) hB
  exact ⟨rfl, a1, a2⟩
def ap0 : Ap := ⟨0, 0, none, 0, []⟩
theorem ap0_in (w : World) : ap0.In w := ⟨rfl, Nat.le_refl _, by unfold maxLen; show 0 ≤ _; omega, fun _ => ⟨rfl, rfl⟩, fun x hx => .inl rfl⟩
theorem ng_take (k : Int) (h : NG A B w b P rl M) (hB : B ≤ w.heap.size) (hl : P.length * 32 ≤ 168884986026393) : Calls Try.prog 26 #[.pointer (some ⟨b, 0, none⟩), .int .i64 k] w fun e w' => ∃ (x : Ap) (r : Int) (P' : List Pk), e = .returned (.tuple #[x.val, .int .i64 r]) ∧ (r = 0 → x.pk ∈ P) ∧ x.In w' ∧ x.s.length ≤ 32768 ∧ NG A B w' b P' rl M ∧ UN A B w w' ∧ P'.length ≤ P.length ∧ ∀ p ∈ P', p ∈ P := by
  obtain ⟨pv, rv, mb, n, R, h1, h2, h3, h4, h5, h6, h7⟩ := h.ex
  by_cases hk : 0 ≤ k ∧ k < P.length
  · obtain ⟨j, rfl⟩ := Int.eq_ofNat_of_zero_le hk.1
    have hj : j < P.length := by omega
    have hg := List.getElem?_eq_getElem hj
    generalize P[j] = x at hg
    refine (take_ok j x h1 hg hl).mono ?_
    rintro e w' ⟨y, rfl, hy, ho, pv', N, U, n'⟩
    obtain ⟨a1, a2⟩ := ng_next h1 h2 h3 h4 h5 h6 h7 N (U.mono (fun k _ hk => .inl hk)) (n'.imp id .inr) hB
    have hm := List.mem_of_getElem? hg
    exact ⟨y, 0, _, rfl, fun _ => hy ▸ hm, ho.sl, by have := h1.sp x hm; rw [← hy] at this; exact this, a1, a2, dr_le _ _, fun p hp => dr_mem hp⟩
  · have hk' : k < 0 ∨ (P.length : Int) ≤ k := by omega
    refine (take_gen _ k 141 141 w (fun o => at_bad k (h1.later ((Below.refl _ _).alloc (Nat.le_refl _) o)) hk') (fun v hb => drop_bad k (h1.later hb) hk')).mono ?_
    rintro e w' ⟨rfl, hb⟩
    exact ⟨ap0, 141, P, rfl, fun e => by omega, ap0_in _, Nat.zero_le _, h.step hb, Upd.of_below hb, Nat.le_refl _, fun p hp => hp⟩
theorem sM_ne (M : Int → List UInt8 → Nat) (p : Pk) (i : Nat) (t : Int) (s : List UInt8) : sM M p i t s ≠ 0 ↔ M t s ≠ 0 ∨ (t = p.t ∧ s = p.s) := by
  unfold sM
  split
  · rename_i hh
    have h2 : M t s ||| 2 ^ i ≠ 0 := by
      intro e
      have := Nat.or_eq_zero_iff.1 e
      have h3 : 0 < 2 ^ i := Nat.two_pow_pos i
      omega
    exact ⟨fun _ => .inr hh, fun _ => h2⟩
  · rename_i hh
    exact ⟨.inl, fun e => e.elim id (fun e => absurd e hh)⟩
/-- Send of what fits. -/
theorem ng_send (y : Ap) (h : NG A B w b P rl M) (hB : B ≤ w.heap.size) (hy : y.In w) (hs : y.s.length ≤ 32768) (hf : adr 3 2 y.f = true) (ht : adr 3 2 y.t = true) (hl : (P.length + 1) * 32 ≤ 168884986026393) (hr : (rl + 1) * 32 ≤ 168884986026393) :
    Calls Try.prog 25 #[.pointer (some ⟨b, 0, none⟩), y.val] w fun e w' => e = .returned (.int .i64 0) ∧ (∃ M', NG A B w' b (P ++ [y.pk]) (rl + 1) M' ∧ ∀ t s, M' t s ≠ 0 ↔ M t s ≠ 0 ∨ (t = y.t ∧ s = y.s)) ∧ UN A B w w' := by
  obtain ⟨pv, rv, mb, n, R, h1, h2, h3, h4, h5, h6, h7⟩ := h.ex
  obtain ⟨i, hfi, hi⟩ := adr_lt hf (by omega) (by omega)
  obtain ⟨j, htj, hj⟩ := adr_lt ht (by omega) (by omega)
  refine (send_ok y i h1 hy hfi hi (wf_i64 (by omega)) hf ht hs hl (by omega)).mono ?_
  rintro e w' ⟨rfl, pv', rv', n', k1, k2, k3, k4⟩
  refine ⟨rfl, ⟨_, ⟨pv', rv', mb, n', _, k1, h2, h3, fun g hg => ?_, fun g hg => ?_, ?_, fun j hj => ?_⟩, fun t s => sM_ne M y.pk i t s⟩, k2.mono (fun k _ hk => ?_)⟩
  · rcases k3 with e | ⟨k, e, hk⟩
    · exact h4 g (e ▸ hg)
    · rw [e] at hg; cases hg; omega
  · rcases k4 with e | ⟨k, e, hk⟩
    · exact h5 g (e ▸ hg)
    · rw [e] at hg; cases hg; omega
  · have := sR_len M R y.pk i
    omega
  · obtain ⟨q1, q2, q3, q4, q5⟩ := h7 j hj
    refine ⟨q1, q2, fun e' => ?_, fun e' => ?_, Nat.lt_of_lt_of_le q5 k2.size⟩
    · rcases k3 with e | ⟨k, e, hk⟩
      · exact q3 (e ▸ e')
      · rw [e] at e'; cases e'; omega
    · rcases k4 with e | ⟨k, e, hk⟩
      · exact q4 (e ▸ e')
      · rw [e] at e'; cases e'; omega
  · rcases hk with rfl | rfl | hk | hk
    · exact ⟨h2, fun ha => (h7 _ ha).1 rfl⟩
    · exact ⟨h3, fun ha => (h7 _ ha).2.1 rfl⟩
    · exact ⟨h4 k hk, fun ha => (h7 _ ha).2.2.1 hk⟩
    · exact ⟨h5 k hk, fun ha => (h7 _ ha).2.2.2.1 hk⟩

end Go.Proofs.Ytegfbebhgihcaaa
