import Derived.Test.YtegfbebhgihcaaaNkc
namespace Go.Proofs.Ytegfbebhgihcaaa
open Go.RowKit Go.Maps
set_option linter.unusedVariables false
set_option linter.unusedSimpArgs false

variable {w w' : World} {b mb n : Nat} {nn cc : Int} {pv rv : Value} {P R : List Pk} {M : Int → List UInt8 → Nat}
theorem bst_beq (l : List UInt8) : ((bst l).toList == (bst l).toList) = true := by simp
set_option maxRecDepth 100000 in
/-- amnesiaref14.Same of two that are the same. -/
theorem same14_eq (x y : Ap) (w : World) (hx : x.In w) (hy : y.In w) (he : x.pk = y.pk) : Calls Try.prog 20 #[x.val, y.val] w fun e w' => e = .returned (.bool true) ∧ Below w.heap.size w w' := by
  obtain ⟨f, t, a, c, s⟩ := x
  obtain ⟨f', t', a', c', s'⟩ := y
  unfold Ap.pk at he
  injection he with h1 h2 h3
  dsimp only at h1 h2 h3
  subst h1 h2 h3
  unfold Ap.val
  dsimp only
  have k1 : ∀ o o', (convert 44 9 (.slice a s.length c)).run Try.prog ((w.alloc o).alloc o') = .ok (.string (bst s)) ((w.alloc o).alloc o') := fun o o' => conv_u ((SlY.alloc8 hx _).alloc8 _)
  have k2 : ∀ o o', (convert 44 9 (.slice a' s.length c')).run Try.prog ((w.alloc o).alloc o') = .ok (.string (bst s)) ((w.alloc o).alloc o') := fun o o' => conv_u ((SlY.alloc8 hy _).alloc8 _)
  have hbe := bst_beq s
  clear hx hy
  go_enter Try.func20, Try.ntmps20
  go_wp2
  go_ret
  exact ⟨rfl, bel8 ((Below.refl _ _).alloc (Nat.le_refl _) _) (Nat.le_refl _) _⟩
set_option maxRecDepth 100000 in
theorem made_any (w : World) : Calls Try.prog 23 #[] w fun e w' => ∃ b mb, e = .returned (.pointer (some ⟨b, 0, none⟩)) ∧ Net w' b 3 2 (.slice none 0 0) (.slice none 0 0) mb 0 [] [] (fun _ _ => 0) ∧ w.heap.size ≤ b ∧ w.heap.size ≤ mb ∧ Below w.heap.size w w' := by
  have HN := hide (netnew_any 3 2 w (by omega))
  go_enter Try.func23, Try.ntmps23
  go_wp2_with fail
  refine HN.out.mono ?_
  rintro e w1 ⟨b, mb, rfl, h1, h2, h3, h4⟩
  have H1 := hide h1
  have H4 := hide h4
  clear h1 h4 HN
  go_wp2
  go_ret
  first
    | exact ⟨_, rfl, mb, H1.out, h2, h3, H4.out⟩
    | exact ⟨_, mb, rfl, H1.out, h2, h3, H4.out⟩
/-- One of the five addresses. -/
def ad5 (a : Int) : Int := if 2 < a % 5 then a % 5 + 4 else a % 5
theorem ad5_adr (a : Int) : adr 3 2 (ad5 a) = true := by
  unfold adr ad5
  split <;> simp <;> omega
theorem ad5_lt (a : Int) : ∃ i : Nat, ad5 a = (i : Int) ∧ i < 32 := adr_lt (ad5_adr a) (by omega) (by omega)
theorem tmod5 (a : Int) : (0 ≤ a.tmod 5 → a.tmod 5 = a % 5) ∧ (a.tmod 5 < 0 → a.tmod 5 + 5 = a % 5) ∧ -5 < a.tmod 5 ∧ a.tmod 5 < 5 := by
  rw [Int.tmod_eq_emod]
  split <;> omega
set_option maxRecDepth 100000 in
theorem address_any (a : Int) (w : World) : Calls Try.prog 74 #[.int .i64 a] w fun e w' => e = .returned (.int .i64 (ad5 a)) ∧ w' = w := by
  obtain ⟨h1, h2, h3, h4⟩ := tmod5 a
  have hr1 : IntKind.i64.wrap (a.tmod 5) = a.tmod 5 := by rw [IntKind.wrap_i64]; omega
  by_cases hneg : a.tmod 5 < 0
  · have e5 := h2 hneg
    have d1 : decide (a.tmod 5 < 0) = true := decide_eq_true hneg
    have hw : IntKind.i64.wrap (a.tmod 5 + 5) = a % 5 := by rw [IntKind.wrap_i64]; omega
    clear h1 h2
    by_cases h7 : 2 < a % 5
    · have d2 : decide (2 < a % 5) = true := decide_eq_true h7
      have hw2 : IntKind.i64.wrap (7 + a % 5) = 7 + a % 5 := by rw [IntKind.wrap_i64]; omega
      have hw3 : IntKind.i64.wrap (7 + a % 5 - 3) = a % 5 + 4 := by rw [IntKind.wrap_i64]; omega
      have e : ad5 a = a % 5 + 4 := by unfold ad5; rw [if_pos h7]
      rw [e]
      clear e e5
      go_enter Try.func74, Try.ntmps74
      go_wp2
      go_ret
      exact ⟨rfl, rfl⟩
    · have d2 : decide (2 < a % 5) = false := decide_eq_false h7
      have e : ad5 a = a % 5 := by unfold ad5; rw [if_neg h7]
      rw [e]
      clear e e5
      go_enter Try.func74, Try.ntmps74
      go_wp2
      go_ret
      exact ⟨rfl, rfl⟩
  · have e5 := h1 (by omega)
    have d1 : decide (a.tmod 5 < 0) = false := decide_eq_false hneg
    clear h1 h2
    by_cases h7 : 2 < a.tmod 5
    · have d2 : decide (2 < a.tmod 5) = true := decide_eq_true h7
      have hw2 : IntKind.i64.wrap (7 + a.tmod 5) = 7 + a.tmod 5 := by rw [IntKind.wrap_i64]; omega
      have hw3 : IntKind.i64.wrap (7 + a.tmod 5 - 3) = a.tmod 5 + 4 := by rw [IntKind.wrap_i64]; omega
      have e : ad5 a = a.tmod 5 + 4 := by unfold ad5; rw [← e5, if_pos h7]
      rw [e]
      clear e e5
      go_enter Try.func74, Try.ntmps74
      go_wp2
      go_ret
      exact ⟨rfl, rfl⟩
    · have d2 : decide (2 < a.tmod 5) = false := decide_eq_false h7
      have e : ad5 a = a.tmod 5 := by unfold ad5; rw [← e5, if_neg h7]
      rw [e]
      clear e e5
      go_enter Try.func74, Try.ntmps74
      go_wp2
      go_ret
      exact ⟨rfl, rfl⟩
set_option maxRecDepth 100000 in
set_option maxHeartbeats 1000000 in
theorem twin_any (x : Ap) (w : World) (hx : x.In w) (hs : x.s.length ≤ 140737488355328) : Calls Try.prog 72 #[x.val] w fun e w' => ∃ y : Ap, e = .returned y.val ∧ y.pk = x.pk ∧ OwnY yU w.heap.size w' (.slice y.a y.s.length y.c) y.s ∧ Below w.heap.size w w' := by
  obtain ⟨f, t, a, c, s⟩ := x
  unfold Ap.In at hx
  unfold Ap.val
  dsimp only at hx hs ⊢
  have HS : ∀ o o', Hid (SlY yU ((w.alloc o).alloc o') a s.length c s) := fun o o' => (hx.alloc8 _).alloc8 _
  clear hx
  go_enter Try.func72, Try.ntmps72
  go_wp2_with (at_builtin; go_must (refine appY kU _ rfl (.tmp 4) (.tmp 6) rfl (w.heap.size + 1 + 1) [] (.slice none 0 0) rfl a s.length c rfl s (HS _ _).out (OwnY.nil _ _ _) (by simp) (by unfold maxLen; simp; omega) (by simp [yU]; omega) ?_))
  intro v1 w1 o1 g1 n1
  obtain ⟨ya, yc, hv1, _⟩ := o1.form
  subst hv1
  have c0 := gcell g1 (b := w.heap.size) (i := 0) (x := .int .i64 f) (by go_simp) (by simp [Value.ownBlock])
  have c1 := gcell g1 (b := w.heap.size) (i := 1) (x := .int .i64 t) (by go_simp) (by simp [Value.ownBlock])
  have c2 := gcell g1 (b := w.heap.size) (i := 2) (x := .slice a s.length c) (by go_simp) (by simp [Value.ownBlock])
  have t1 : ∀ j, w1.frozen? ⟨w.heap.size, j, none⟩ = false := fun j => gfroz g1 (by simp; omega) (by go_simp) (by simp [Value.ownBlock])
  have r0 := gcell g1 (b := w.heap.size + 1) (i := 0) (x := .int .i64 0) (by go_simp) (by simp [Value.ownBlock])
  have r1 := gcell g1 (b := w.heap.size + 1) (i := 1) (x := .int .i64 0) (by go_simp) (by simp [Value.ownBlock])
  have r2 := gcell g1 (b := w.heap.size + 1) (i := 2) (x := .slice none 0 0) (by go_simp) (by simp [Value.ownBlock])
  have t2 : ∀ j, w1.frozen? ⟨w.heap.size + 1, j, none⟩ = false := fun j => gfroz g1 (by simp) (by go_simp) (by simp [Value.ownBlock])
  have hz1 : w.heap.size + 1 + 1 ≤ w1.heap.size := by have := g1.size; simp at this; omega
  have HO := hide o1
  have HB : Hid (Below w.heap.size w w1) := (bel8 ((Below.refl _ _).alloc (Nat.le_refl _) _) (Nat.le_refl _) _).grown g1 (by simp; omega) (fun k hk => by simp [Value.ownBlock] at hk)
  clear o1 g1 n1 HS
  go_wp2
  refine bodyPost_ret (v := .agg #[.int .i64 f, .int .i64 t, .slice ya s.length yc]) (by simp [results, Try.results72, go_sem, r0, r1, r2]) rfl ⟨⟨f, t, ya, yc, s⟩, rfl, rfl, ?_, ?_⟩
  · have u : Upd (fun k => k = w.heap.size ∨ k = w.heap.size + 1) w1 ((((w1.setCell ⟨w.heap.size, 2, none⟩ (.slice ya s.length yc)).setCell ⟨w.heap.size + 1, 0, none⟩ (.int .i64 f)).setCell ⟨w.heap.size + 1, 1, none⟩ (.int .i64 t)).setCell ⟨w.heap.size + 1, 2, none⟩ (.slice ya s.length yc)) := ((((Upd.refl _ w1).setCell (p := ⟨w.heap.size, 2, none⟩) (.inl (.inl rfl)) _).setCell (p := ⟨w.heap.size + 1, 0, none⟩) (.inl (.inr rfl)) _).setCell (p := ⟨w.heap.size + 1, 1, none⟩) (.inl (.inr rfl)) _).setCell (p := ⟨w.heap.size + 1, 2, none⟩) (.inl (.inr rfl)) _
    exact (HO.out.upd1 u (fun k hk e => by have := (HO.out.blk k hk).1; omega)).low (by omega)
  · refine (((HB.out.setCell ?_ _).setCell ?_ _).setCell ?_ _).setCell ?_ _
    all_goals (first | omega | (dsimp only; omega))
/-- A box of three cells. -/
structure B3 (w : World) (q : Nat) (x y z : Value) : Prop where
  lt : q < w.heap.size
  c0 : w.cell? ⟨q, 0, none⟩ = some x
  c1 : w.cell? ⟨q, 1, none⟩ = some y
  c2 : w.cell? ⟨q, 2, none⟩ = some z
  fr : ∀ j, w.frozen? ⟨q, j, none⟩ = false
theorem B3.set0 {w : World} {q : Nat} {x y z : Value} (h : B3 w q x y z) (u : Value) : B3 (w.setCell ⟨q, 0, none⟩ u) q u y z := ⟨by simpa using h.lt, setc_eq h.c0, setc_ne h.c1 (by decide), setc_ne h.c2 (by decide), fun j => setf (h.fr j)⟩
theorem B3.set1 {w : World} {q : Nat} {x y z : Value} (h : B3 w q x y z) (u : Value) : B3 (w.setCell ⟨q, 1, none⟩ u) q x u z := ⟨by simpa using h.lt, setc_ne h.c0 (by decide), setc_eq h.c1, setc_ne h.c2 (by decide), fun j => setf (h.fr j)⟩
theorem B3.set2 {w : World} {q : Nat} {x y z : Value} (h : B3 w q x y z) (u : Value) : B3 (w.setCell ⟨q, 2, none⟩ u) q x y u := ⟨by simpa using h.lt, setc_ne h.c0 (by decide), setc_ne h.c1 (by decide), setc_eq h.c2, fun j => setf (h.fr j)⟩
theorem B3.upd {S : Nat → Prop} {w w' : World} {q : Nat} {x y z : Value} (h : B3 w q x y z) (u : Upd S w w') (hs : ¬ S q) : B3 w' q x y z := ⟨Nat.lt_of_lt_of_le h.lt u.size, (u.cell (p := ⟨q, 0, none⟩) h.lt hs).trans h.c0, (u.cell (p := ⟨q, 1, none⟩) h.lt hs).trans h.c1, (u.cell (p := ⟨q, 2, none⟩) h.lt hs).trans h.c2, fun j => (u.frozen (p := ⟨q, j, none⟩) h.lt hs).trans (h.fr j)⟩
theorem B3.bel {w w' : World} {q : Nat} {x y z : Value} (h : B3 w q x y z) (hb : Below w.heap.size w w') : B3 w' q x y z := h.upd (S := fun _ => False) (Upd.of_below hb) id
theorem B3.new (w : World) (x y z : Value) (t : TypeId) : B3 (w.alloc (.cells #[x, y, z] t)) w.heap.size x y z := ⟨by simp, by simp, by simp, by simp, fun j => by simp⟩
theorem upd1 (w : World) (b k : Nat) (u : Value) : Upd (fun j => j = b) w (w.setCell ⟨b, k, none⟩ u) := (Upd.refl (fun j => j = b) w).setCell (p := ⟨b, k, none⟩) (.inl rfl) u
set_option maxRecDepth 100000 in
set_option maxHeartbeats 1000000 in
theorem fit_any (x : Ap) (w : World) (hx : x.In w) (hs : x.s.length ≤ 140737488355328) : Calls Try.prog 24 #[x.val] w fun e w' => ∃ y : Ap, e = .returned y.val ∧ y.pk = ⟨ad5 x.t, x.s.take 32768, ad5 x.f⟩ ∧ y.In w' ∧ Below w.heap.size w w' := by
  have HT : ∀ o o', Hid (Calls Try.prog 72 #[x.val] ((w.alloc o).alloc o') fun e w' => ∃ y : Ap, e = .returned y.val ∧ y.pk = x.pk ∧ OwnY yU ((w.alloc o).alloc o').heap.size w' (.slice y.a y.s.length y.c) y.s ∧ Below ((w.alloc o).alloc o').heap.size ((w.alloc o).alloc o') w') := fun o o' => twin_any x _ ((SlY.alloc8 hx _).alloc8 _) hs
  obtain ⟨f, t, a, c, s⟩ := x
  unfold Ap.val at HT ⊢
  dsimp only at hs HT ⊢
  clear hx
  go_enter Try.func24, Try.ntmps24
  go_wp2_with fail
  refine (HT _ _).out.mono ?_
  rintro e w1 ⟨y, rfl, hy, ho, hb⟩
  obtain ⟨f2, t2, a2, c2, s2⟩ := y
  unfold Ap.pk at hy
  injection hy with h1 h2 h3
  dsimp only at h1 h2 h3
  subst h1 h2 h3
  have ha1 := fun v => hide (address_any f2 v)
  have ha2 := fun v => hide (address_any t2 v)
  have hz1 : w.heap.size + 1 + 1 ≤ w1.heap.size := by have := hb.size; simp at this; omega
  have Q1 : B3 w1 w.heap.size (.int .i64 f2) (.int .i64 t2) (.slice a s2.length c) := ((B3.new w _ _ _ _).bel ((Below.refl _ _).alloc (Nat.le_refl _) _)).bel hb
  have Q2 : B3 w1 (w.heap.size + 1) (.int .i64 0) (.int .i64 0) (.slice none 0 0) := by
    have := (B3.new (w.alloc (.cells #[.int .i64 f2, .int .i64 t2, .slice a s2.length c] 46)) (.int .i64 0) (.int .i64 0) (.slice none 0 0) 46).bel hb
    simpa using this
  have HO := hide ho
  have HB : Hid (Below w.heap.size w w1) := (bel8 ((Below.refl _ _).alloc (Nat.le_refl _) _) (Nat.le_refl _) _).trans (hb.mono (by simp; omega))
  have hcp : s2.length ≤ c2 := (ho.sl' kU).cap
  have KU : Hid (∀ v, Upd (fun k => k = w.heap.size ∨ k = w.heap.size + 1) w1 v → SlY yU v a2 s2.length c2 s2 ∧ Below w.heap.size w v) := fun v u => ⟨(HO.out.upd1 u (fun k hk e => by have := (HO.out.blk k hk).1; simp at this; omega)).sl' kU, HB.out.trans (u.below HB.out.size (fun k hk => by omega))⟩
  have nq : ¬ w.heap.size + 1 = w.heap.size := by omega
  obtain ⟨_, c0, c1, c3, q1⟩ := Q1
  have HQ2 := hide Q2
  have HQ1 : Hid (B3 w1 w.heap.size (.int .i64 f2) (.int .i64 t2) (.slice a s2.length c)) := ⟨by omega, c0, c1, c3, q1⟩
  clear ho hb HT Q2
  go_wp2_with fail
  refine (ha1 _).out.mono ?_
  rintro e v1 ⟨rfl, rfl⟩
  have G1 := ((HQ1.out.set0 (.int .i64 f2)).set1 (.int .i64 t2)).set2 (.slice a2 s2.length c2)
  have U1 := set3 w1 w.heap.size (.int .i64 f2) (.int .i64 t2) (.slice a2 s2.length c2)
  clear c0 c1 c3 q1
  generalize ((w1.setCell ⟨w.heap.size, 0, none⟩ (.int .i64 f2)).setCell ⟨w.heap.size, 1, none⟩ (.int .i64 t2)).setCell ⟨w.heap.size, 2, none⟩ (.slice a2 s2.length c2) = X1 at *
  have HU1 := hide U1
  have HG1 := hide G1
  obtain ⟨_, c0, c1, c3, q1⟩ := G1
  clear U1
  go_wp2_with fail
  refine (ha2 _).out.mono ?_
  rintro e v2 ⟨rfl, rfl⟩
  have G2 := HG1.out.set0 (.int .i64 (ad5 f2))
  have HU2 := hide (HU1.out.trans (upd1 X1 w.heap.size 0 (.int .i64 (ad5 f2))))
  clear c0 c1 c3 q1
  generalize X1.setCell ⟨w.heap.size, 0, none⟩ (.int .i64 (ad5 f2)) = X2 at *
  have HG2 := hide G2
  obtain ⟨_, c0, c1, c3, q1⟩ := G2
  by_cases hlong : (32768 : Int) < (s2.length : Int)
  · have d1 : decide ((32768 : Int) < (s2.length : Int)) = true := decide_eq_true hlong
    have hc32 : (32768 : Int) ≤ (c2 : Int) := by omega
    have hc33 : 32768 ≤ c2 := by omega
    have hc34 : 32768 ≤ s2.length := by omega
    have HU3 := hide ((HU2.out.trans (upd1 X2 w.heap.size 1 (.int .i64 (ad5 t2)))).trans (upd1 _ w.heap.size 2 (.slice a2 32768 c2)))
    have R3 := hide (HQ2.out.upd HU3.out nq)
    have r3 := R3.out.c0
    have r4 := R3.out.c1
    have r5 := R3.out.c2
    have r6 := R3.out.fr
    have HU4 := hide ((HU3.out.mono (fun k _ e => .inl e)).trans ((set3 _ (w.heap.size + 1) (.int .i64 (ad5 f2)) (.int .i64 (ad5 t2)) (.slice a2 32768 c2)).mono (fun k _ e => Or.inr e)) : Upd (fun k => k = w.heap.size ∨ k = w.heap.size + 1) w1 _)
    go_wp2
    refine bodyPost_ret (v := .agg #[.int .i64 (ad5 f2), .int .i64 (ad5 t2), .slice a2 32768 c2]) (by simp [results, Try.results24, go_sem, r3, r4, r5]) rfl ⟨⟨ad5 f2, ad5 t2, a2, c2, s2.take 32768⟩, ?_, rfl, ?_, (KU.out _ HU4.out).2⟩
    · have : (s2.take 32768).length = 32768 := by rw [List.length_take]; omega
      dsimp only
      rw [this]
    · have h := (KU.out _ HU4.out).1.take 32768 hc34
      show SlY yU _ a2 (s2.take 32768).length c2 (s2.take 32768)
      rw [List.length_take, Nat.min_eq_left hc34]
      exact h
  · have d1 : decide ((32768 : Int) < (s2.length : Int)) = false := decide_eq_false hlong
    have htk : s2.take 32768 = s2 := List.take_of_length_le (by omega)
    have HTK := hide htk
    clear htk
    have HU3 := hide (HU2.out.trans (upd1 X2 w.heap.size 1 (.int .i64 (ad5 t2))))
    have R3 := hide (HQ2.out.upd HU3.out nq)
    have r3 := R3.out.c0
    have r4 := R3.out.c1
    have r5 := R3.out.c2
    have r6 := R3.out.fr
    have HU4 := hide ((HU3.out.mono (fun k _ e => .inl e)).trans ((set3 _ (w.heap.size + 1) (.int .i64 (ad5 f2)) (.int .i64 (ad5 t2)) (.slice a2 s2.length c2)).mono (fun k _ e => Or.inr e)) : Upd (fun k => k = w.heap.size ∨ k = w.heap.size + 1) w1 _)
    go_wp2
    refine bodyPost_ret (v := .agg #[.int .i64 (ad5 f2), .int .i64 (ad5 t2), .slice a2 s2.length c2]) (by simp [results, Try.results24, go_sem, r3, r4, r5]) rfl ⟨⟨ad5 f2, ad5 t2, a2, c2, s2⟩, rfl, ?_, (KU.out _ HU4.out).1, (KU.out _ HU4.out).2⟩
    unfold Ap.pk
    dsimp only
    rw [HTK.out]

end Go.Proofs.Ytegfbebhgihcaaa
