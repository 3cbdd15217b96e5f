import Derived.Test.YtegfbebhgihcaaaNkq
namespace Go.Proofs.Ytegfbebhgihcaaa
open Go.RowKit Go.Maps
set_option linter.unusedVariables false
set_option linter.unusedSimpArgs false

variable {w w' : World} {b mb n : Nat} {nn cc : Int} {pv rv : Value} {P R : List Pk} {M : Int → List UInt8 → Nat}
theorem turn_bad (k at_ : Int) (m : Int) (h : Net w b nn cc pv rv mb n P R M) (hk : k < 0 ∨ (P.length : Int) ≤ k) : Calls Try.prog 30 #[.pointer (some ⟨b, 0, none⟩), .int .i64 k, .int .i64 at_, .int .u8 m] w fun e w' => e = .returned (.int .i64 141) ∧ w' = w := by
  have c2 := h.c2
  obtain ⟨a, c, rfl, hsl⟩ := h.pl.sl
  have HW : ∀ v, Hid (Calls Try.prog 77 #[.int .i64 k, .int .i64 (P.length : Int)] v fun e w' => e = .returned (.bool false) ∧ w' = v) := fun v => by
    have := isWithin_any k (P.length : Int) v
    have e : (decide (0 ≤ k) && decide (k < (P.length : Int))) = false := by simp; omega
    rw [e] at this
    exact this
  clear h hsl hk
  go_enter Try.func30, Try.ntmps30
  go_wp2_with fail
  refine (HW _).out.mono ?_
  rintro e w1 ⟨rfl, hy_⟩
  rw [hy_]; clear hy_ w1
  go_wp2
  go_ret
  exact ⟨rfl, rfl⟩
set_option maxRecDepth 100000 in
set_option maxHeartbeats 1000000 in
theorem turn_byte (k : Nat) (at_ : Int) (m : Int) (x : Pk) (h : Net w b nn cc pv rv mb n P R M) (hx : P[k]? = some x) (hat : at_ < 0 ∨ (x.s.length : Int) ≤ at_) : Calls Try.prog 30 #[.pointer (some ⟨b, 0, none⟩), .int .i64 (k : Int), .int .i64 at_, .int .u8 m] w fun e w' => e = .returned (.int .i64 143) ∧ w' = w := by
  have hk : k < P.length := (List.getElem?_eq_some_iff.1 hx).1
  have c2 := h.c2
  obtain ⟨a, c, hpv, hsl⟩ := h.pl.sl
  subst hpv
  obtain ⟨q, o, ha, hq, hlie⟩ := hsl.place (by intro e; rw [e] at hk; simp at hk)
  subst ha
  have l1 : w.cell? ⟨q, o + k * 3 + 1, none⟩ = some (.string (bst x.s)) := hlie _ _ hx 1 _ rfl
  have hbz := bst_size x.s
  have i1 : (k : Int) < (P.length : Int) := by omega
  have H1 : Hid (Calls Try.prog 77 #[.int .i64 (k : Int), .int .i64 (P.length : Int)] w fun e w' => e = .returned (.bool true) ∧ w' = w) := by
    have := isWithin_any (k : Int) (P.length : Int) w
    rw [decide_eq_true (show (0 : Int) ≤ k by omega), decide_eq_true (show (k : Int) < P.length by omega)] at this
    exact this
  have H2 : Hid (Calls Try.prog 77 #[.int .i64 at_, .int .i64 (x.s.length : Int)] w fun e w' => e = .returned (.bool false) ∧ w' = w) := by
    have := isWithin_any at_ (x.s.length : Int) w
    have e : (decide (0 ≤ at_) && decide (at_ < (x.s.length : Int))) = false := by simp; omega
    rw [e] at this
    exact this
  clear h hsl hlie hx hat
  go_enter Try.func30, Try.ntmps30
  go_wp2_with fail
  refine H1.out.mono ?_
  rintro e w1 ⟨rfl, hy_⟩
  rw [hy_]; clear hy_ w1
  go_wp2_with fail
  refine H2.out.mono ?_
  rintro e w1 ⟨rfl, hy_⟩
  rw [hy_]; clear hy_ w1
  go_wp2
  go_ret
  exact ⟨rfl, rfl⟩
/-- A packet with a byte turned. -/
def tnP (x : Pk) (at_ : Nat) (m : UInt8) : Pk := ⟨x.t, x.s.set at_ ((x.s[at_]?).getD 0 ^^^ m), x.f⟩
set_option maxRecDepth 100000 in
set_option maxHeartbeats 2000000 in
theorem turn_ok (k at_ : Nat) (m : UInt8) (x : Pk) (h : Net w b nn cc pv rv mb n P R M) (hx : P[k]? = some x) (hat : at_ < x.s.length) (hl : P.length * 32 ≤ 168884986026393) : Calls Try.prog 30 #[.pointer (some ⟨b, 0, none⟩), .int .i64 (k : Int), .int .i64 (at_ : Int), .int .u8 (m.toNat : Int)] w fun e w' => e = .returned (.int .i64 0) ∧ ∃ pv', Net w' b nn cc pv' rv mb n (P.set k (tnP x at_ m)) R M ∧ Upd (fun k => k = b) w w' ∧ ∃ g, pv'.ownBlock = some g ∧ w.heap.size ≤ g := by
  have hk : k < P.length := (List.getElem?_eq_some_iff.1 hx).1
  have HN := hide h
  have c2 := h.c2
  have f2 := h.fr 2
  have hlt := h.lt
  have hxs := h.sp x (List.mem_of_getElem? hx)
  obtain ⟨a, c, hpv, hsl⟩ := h.pl.sl
  subst hpv
  obtain ⟨q, o, ha, hq, hlie⟩ := hsl.place (by intro e; rw [e] at hk; simp at hk)
  subst ha
  have l1 : w.cell? ⟨q, o + k * 3 + 1, none⟩ = some (.string (bst x.s)) := hlie _ _ hx 1 _ rfl
  have hbz := bst_size x.s
  have i1 : (k : Int) < (P.length : Int) := by omega
  have H1 : Hid (Calls Try.prog 77 #[.int .i64 (k : Int), .int .i64 (P.length : Int)] w fun e w' => e = .returned (.bool true) ∧ w' = w) := by
    have := isWithin_any (k : Int) (P.length : Int) w
    rw [decide_eq_true (show (0 : Int) ≤ k by omega), decide_eq_true (show (k : Int) < P.length by omega)] at this
    exact this
  have H2 : Hid (Calls Try.prog 77 #[.int .i64 (at_ : Int), .int .i64 (x.s.length : Int)] w fun e w' => e = .returned (.bool true) ∧ w' = w) := by
    have := isWithin_any (at_ : Int) (x.s.length : Int) w
    rw [decide_eq_true (show (0 : Int) ≤ at_ by omega), decide_eq_true (show (at_ : Int) < x.s.length by omega)] at this
    exact this
  have HC := hide (clone14 P ⟨q, o, none⟩ c w hsl hl (by omega))
  have HT : ∀ v, Hid (Calls Try.prog 80 #[x.val, .int .i64 (at_ : Int), .int .u8 (m.toNat : Int)] v fun e w' => e = .returned (tnP x at_ m).val ∧ Below v.heap.size v w') := fun v => by
    have := turned_any x at_ m v hat hxs
    unfold tnP
    rw [List.getElem?_eq_getElem hat]
    exact this
  have HX := hide hx
  have hts : (tnP x at_ m).s.length ≤ 32768 := by unfold tnP; rw [List.length_set]; exact hxs
  generalize tnP x at_ m = y at HT hts ⊢
  clear h hsl hlie hx
  go_enter Try.func30, Try.ntmps30
  go_wp2_with fail
  refine H1.out.mono ?_
  rintro e w1 ⟨rfl, hy_⟩
  rw [hy_]; clear hy_ w1
  go_wp2_with fail
  refine H2.out.mono ?_
  rintro e w1 ⟨rfl, hy_⟩
  rw [hy_]; clear hy_ w1
  go_wp2_with fail
  refine HC.out.mono ?_
  rintro e w2 ⟨g, kc, rfl, o2, hg1, hg2, b2⟩
  have S2 := OwnY.sl' kP o2
  obtain ⟨q', o', e', hq', hl'⟩ := S2.place (by intro e; rw [e] at hk; simp at hk)
  cases e'
  have x0 : w2.cell? ⟨g, k * 3, none⟩ = some (.int .i64 x.t) := by have := hl' _ _ HX.out 0 _ rfl; simpa [yP] using this
  have x1 : w2.cell? ⟨g, k * 3 + 1, none⟩ = some (.string (bst x.s)) := by have := hl' _ _ HX.out 1 _ rfl; simpa [yP] using this
  have x2 : w2.cell? ⟨g, k * 3 + 2, none⟩ = some (.int .i64 x.f) := by have := hl' _ _ HX.out 2 _ rfl; simpa [yP] using this
  have HT2 := HT w2
  have HO := hide o2
  have HB := hide b2
  unfold Pk.val at HT2
  clear o2 b2 S2 hl' hq' HC H1 H2 l1 HT
  go_wp2_with fail
  refine HT2.out.mono ?_
  rintro e w3 ⟨rfl, b3⟩
  have HP := hide (set3P (HO.out.grow b3) HX.out y)
  have X0 := (b3.cell (p := ⟨g, k * 3, none⟩) hg2).trans x0
  have X1 := (b3.cell (p := ⟨g, k * 3 + 1, none⟩) hg2).trans x1
  have X2 := (b3.cell (p := ⟨g, k * 3 + 2, none⟩) hg2).trans x2
  have fz : ∀ j, w3.frozen? ⟨g, j, none⟩ = false := fun j => (HO.out.grow b3).free j
  have HB3 := hide (HB.out.trans (b3.mono HB.out.size))
  have hz3 := HB3.out.size
  have hbg : ¬ b = g := by omega
  have hgb : ¬ g = b := by omega
  have hg3 : g < w3.heap.size := Nat.lt_of_lt_of_le hg2 b3.size
  have c3 := (HB3.out.cell (p := ⟨b, 2, none⟩) hlt).trans c2
  have f3 := (HB3.out.frozen (p := ⟨b, 2, none⟩) hlt).trans f2
  have HF : Hid (Net ((((w3.setCell ⟨g, k * 3, none⟩ (.int .i64 y.t)).setCell ⟨g, k * 3 + 1, none⟩ (.string (bst y.s))).setCell ⟨g, k * 3 + 2, none⟩ (.int .i64 y.f)).setCell ⟨b, 2, none⟩ (.slice (some ⟨g, 0, none⟩) P.length kc)) b nn cc (.slice (some ⟨g, 0, none⟩) P.length kc) rv mb n (P.set k y) R M ∧ Upd (fun k => k = b) w ((((w3.setCell ⟨g, k * 3, none⟩ (.int .i64 y.t)).setCell ⟨g, k * 3 + 1, none⟩ (.string (bst y.s))).setCell ⟨g, k * 3 + 2, none⟩ (.int .i64 y.f)).setCell ⟨b, 2, none⟩ (.slice (some ⟨g, 0, none⟩) P.length kc))) := by
    have u3 := upd3P w3 g k y
    have b4 : Below w.heap.size w _ := HB3.out.trans (u3.below hz3 (fun j hj => by omega))
    have u : Upd (fun k => (Value.slice (some ⟨q, o, none⟩) P.length c).ownBlock = some k) w _ := Upd.of_below b4
    refine ⟨(HN.out.setPool u (.inl (HP.out.low (Nat.zero_le _))) (.inr (.inr ⟨g, rfl, hg1⟩)) (fun j hj => by cases hj; exact Nat.lt_of_lt_of_le hg3 u3.size) (fun p hp => ?_)).1, (Upd.of_below (S := fun k => k = b) b4).setCell (p := ⟨b, 2, none⟩) (.inl rfl) _⟩
    rcases List.mem_or_eq_of_mem_set hp with hp | rfl
    · exact HN.out.sp p hp
    · exact hts
  clear b3 HP HB3 HB HO HT2 HN x0 x1 x2 c2 f2
  go_wp2
  go_ret
  exact ⟨rfl, _, HF.out.1, HF.out.2, g, rfl, hg1⟩

end Go.Proofs.Ytegfbebhgihcaaa
