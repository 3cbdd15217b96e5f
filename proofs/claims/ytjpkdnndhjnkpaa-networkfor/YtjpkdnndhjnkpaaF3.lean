import Derived.Lib.SlBytesConst
import Derived.Test.YtjpkdnndhjnkpaaF2
set_option maxRecDepth 100000
set_option linter.unusedVariables false
set_option linter.unusedSimpArgs false
namespace Go.Proofs.Ytjpkdnndhjnkpaa
open Go.RowKit Go.Maps
variable {w w' : World} {b mb n : Nat} {nn cc : Int} {pv rv : Value} {P R : List Pk} {M : Int → List UInt8 → Nat}
theorem bst_beq (l : List UInt8) : ((bst l).toList == (bst l).toList) = true := by simp
theorem same14_eq (x y : Ap) (w : World) (hx : x.In w) (hy : y.In w) (he : x.pk = y.pk) : Calls Try.prog 20 #[x.val, y.val] w fun e w' => e = .returned (.bool true) ∧ Below w.heap.size w w' := by
  obtain ⟨f, t, a, c, s⟩ := x
  obtain ⟨f', t', a', c', s'⟩ := y
  unfold Ap.pk at he
  injection he with h1 h2 h3
  dsimp only at h1 h2 h3
  subst h1 h2 h3
  unfold Ap.val
  dsimp only
  have k1 : ∀ o o', (convert 44 9 (.slice a s.length c)).run Try.prog ((w.alloc o).alloc o') = .ok (.string (bst s)) ((w.alloc o).alloc o') := fun o o' => conv_u ((SlY.alloc8 hx _).alloc8 _)
  have k2 : ∀ o o', (convert 44 9 (.slice a' s.length c')).run Try.prog ((w.alloc o).alloc o') = .ok (.string (bst s)) ((w.alloc o).alloc o') := fun o o' => conv_u ((SlY.alloc8 hy _).alloc8 _)
  have hbe := bst_beq s
  clear hx hy
  go_enter Try.func20, Try.ntmps20
  go_wp2
  go_ret
  exact ⟨rfl, bel8 ((Below.refl _ _).alloc (Nat.le_refl _) _) (Nat.le_refl _) _⟩
theorem made_any (w : World) : Calls Try.prog 23 #[] w fun e w' => ∃ b mb, e = .returned (.pointer (some ⟨b, 0, none⟩)) ∧ Net w' b 3 2 (.slice none 0 0) (.slice none 0 0) mb 0 [] [] (fun _ _ => 0) ∧ w.heap.size ≤ b ∧ w.heap.size ≤ mb ∧ Below w.heap.size w w' := by
  have HN := hide (netnew_any 3 2 w (by omega))
  go_enter Try.func23, Try.ntmps23
  go_wp2_with fail
  refine HN.out.mono ?_
  rintro e w1 ⟨b, mb, rfl, h1, h2, h3, h4⟩
  have H1 := hide h1
  have H4 := hide h4
  clear h1 h4 HN
  go_wp2
  go_ret
  first
    | exact ⟨_, rfl, mb, H1.out, h2, h3, H4.out⟩
    | exact ⟨_, mb, rfl, H1.out, h2, h3, H4.out⟩
def ad5 (a : Int) : Int := if 2 < a % 5 then a % 5 + 4 else a % 5
theorem ad5_adr (a : Int) : adr 3 2 (ad5 a) = true := by
  unfold adr ad5
  split <;> simp <;> omega
theorem tmod5 (a : Int) : (0 ≤ a.tmod 5 → a.tmod 5 = a % 5) ∧ (a.tmod 5 < 0 → a.tmod 5 + 5 = a % 5) ∧ -5 < a.tmod 5 ∧ a.tmod 5 < 5 := by
  rw [Int.tmod_eq_emod]
  split <;> omega
theorem address_any (a : Int) (w : World) : Calls Try.prog 74 #[.int .i64 a] w fun e w' => e = .returned (.int .i64 (ad5 a)) ∧ w' = w := by
  obtain ⟨h1, h2, h3, h4⟩ := tmod5 a
  have hr1 : IntKind.i64.wrap (a.tmod 5) = a.tmod 5 := by rw [IntKind.wrap_i64]; omega
  by_cases hneg : a.tmod 5 < 0
  · have e5 := h2 hneg
    have d1 : decide (a.tmod 5 < 0) = true := decide_eq_true hneg
    have hw : IntKind.i64.wrap (a.tmod 5 + 5) = a % 5 := by rw [IntKind.wrap_i64]; omega
    clear h1 h2
    by_cases h7 : 2 < a % 5
    · have d2 : decide (2 < a % 5) = true := decide_eq_true h7
      have hw2 : IntKind.i64.wrap (7 + a % 5) = 7 + a % 5 := by rw [IntKind.wrap_i64]; omega
      have hw3 : IntKind.i64.wrap (7 + a % 5 - 3) = a % 5 + 4 := by rw [IntKind.wrap_i64]; omega
      have e : ad5 a = a % 5 + 4 := by unfold ad5; rw [if_pos h7]
      rw [e]
      clear e e5
      go_enter Try.func74, Try.ntmps74
      go_wp2
      go_ret
      exact ⟨rfl, rfl⟩
    · have d2 : decide (2 < a % 5) = false := decide_eq_false h7
      have e : ad5 a = a % 5 := by unfold ad5; rw [if_neg h7]
      rw [e]
      clear e e5
      go_enter Try.func74, Try.ntmps74
      go_wp2
      go_ret
      exact ⟨rfl, rfl⟩
  · have e5 := h1 (by omega)
    have d1 : decide (a.tmod 5 < 0) = false := decide_eq_false hneg
    clear h1 h2
    by_cases h7 : 2 < a.tmod 5
    · have d2 : decide (2 < a.tmod 5) = true := decide_eq_true h7
      have hw2 : IntKind.i64.wrap (7 + a.tmod 5) = 7 + a.tmod 5 := by rw [IntKind.wrap_i64]; omega
      have hw3 : IntKind.i64.wrap (7 + a.tmod 5 - 3) = a.tmod 5 + 4 := by rw [IntKind.wrap_i64]; omega
      have e : ad5 a = a.tmod 5 + 4 := by unfold ad5; rw [← e5, if_pos h7]
      rw [e]
      clear e e5
      go_enter Try.func74, Try.ntmps74
      go_wp2
      go_ret
      exact ⟨rfl, rfl⟩
    · have d2 : decide (2 < a.tmod 5) = false := decide_eq_false h7
      have e : ad5 a = a.tmod 5 := by unfold ad5; rw [← e5, if_neg h7]
      rw [e]
      clear e e5
      go_enter Try.func74, Try.ntmps74
      go_wp2
      go_ret
      exact ⟨rfl, rfl⟩
set_option maxHeartbeats 1000000 in
theorem twin_any (x : Ap) (w : World) (hx : x.In w) (hs : x.s.length ≤ 140737488355328) : Calls Try.prog 72 #[x.val] w fun e w' => ∃ y : Ap, e = .returned y.val ∧ y.pk = x.pk ∧ OwnY yU w.heap.size w' (.slice y.a y.s.length y.c) y.s ∧ Below w.heap.size w w' := by
  obtain ⟨f, t, a, c, s⟩ := x
  unfold Ap.In at hx
  unfold Ap.val
  dsimp only at hx hs ⊢
  have HS : ∀ o o', Hid (SlY yU ((w.alloc o).alloc o') a s.length c s) := fun o o' => (hx.alloc8 _).alloc8 _
  clear hx
  go_enter Try.func72, Try.ntmps72
  go_wp2_with (at_builtin; go_must (refine appY kU _ rfl (.tmp 4) (.tmp 6) rfl (w.heap.size + 1 + 1) [] (.slice none 0 0) rfl a s.length c rfl s (HS _ _).out (OwnY.nil _ _ _) (by simp) (by unfold maxLen; simp; omega) (by simp [yU]; omega) ?_))
  intro v1 w1 o1 g1 n1
  obtain ⟨ya, yc, hv1, _⟩ := o1.form
  subst hv1
  have c0 := gcell g1 (b := w.heap.size) (i := 0) (x := .int .i64 f) (by go_simp) (by simp [Value.ownBlock])
  have c1 := gcell g1 (b := w.heap.size) (i := 1) (x := .int .i64 t) (by go_simp) (by simp [Value.ownBlock])
  have c2 := gcell g1 (b := w.heap.size) (i := 2) (x := .slice a s.length c) (by go_simp) (by simp [Value.ownBlock])
  have t1 : ∀ j, w1.frozen? ⟨w.heap.size, j, none⟩ = false := fun j => gfroz g1 (by simp; omega) (by go_simp) (by simp [Value.ownBlock])
  have r0 := gcell g1 (b := w.heap.size + 1) (i := 0) (x := .int .i64 0) (by go_simp) (by simp [Value.ownBlock])
  have r1 := gcell g1 (b := w.heap.size + 1) (i := 1) (x := .int .i64 0) (by go_simp) (by simp [Value.ownBlock])
  have r2 := gcell g1 (b := w.heap.size + 1) (i := 2) (x := .slice none 0 0) (by go_simp) (by simp [Value.ownBlock])
  have t2 : ∀ j, w1.frozen? ⟨w.heap.size + 1, j, none⟩ = false := fun j => gfroz g1 (by simp) (by go_simp) (by simp [Value.ownBlock])
  have hz1 : w.heap.size + 1 + 1 ≤ w1.heap.size := by have := g1.size; simp at this; omega
  have HO := hide o1
  have HB : Hid (Below w.heap.size w w1) := (bel8 ((Below.refl _ _).alloc (Nat.le_refl _) _) (Nat.le_refl _) _).grown g1 (by simp; omega) (fun k hk => by simp [Value.ownBlock] at hk)
  clear o1 g1 n1 HS
  go_wp2
  refine bodyPost_ret (v := .agg #[.int .i64 f, .int .i64 t, .slice ya s.length yc]) (by simp [results, Try.results72, go_sem, r0, r1, r2]) rfl ⟨⟨f, t, ya, yc, s⟩, rfl, rfl, ?_, ?_⟩
  · have u : Upd (fun k => k = w.heap.size ∨ k = w.heap.size + 1) w1 ((((w1.setCell ⟨w.heap.size, 2, none⟩ (.slice ya s.length yc)).setCell ⟨w.heap.size + 1, 0, none⟩ (.int .i64 f)).setCell ⟨w.heap.size + 1, 1, none⟩ (.int .i64 t)).setCell ⟨w.heap.size + 1, 2, none⟩ (.slice ya s.length yc)) := ((((Upd.refl _ w1).setCell (p := ⟨w.heap.size, 2, none⟩) (.inl (.inl rfl)) _).setCell (p := ⟨w.heap.size + 1, 0, none⟩) (.inl (.inr rfl)) _).setCell (p := ⟨w.heap.size + 1, 1, none⟩) (.inl (.inr rfl)) _).setCell (p := ⟨w.heap.size + 1, 2, none⟩) (.inl (.inr rfl)) _
    exact (HO.out.upd1 u (fun k hk e => by have := (HO.out.blk k hk).1; omega)).low (by omega)
  · refine (((HB.out.setCell ?_ _).setCell ?_ _).setCell ?_ _).setCell ?_ _
    all_goals (first | omega | (dsimp only; omega))
structure B3 (w : World) (q : Nat) (x y z : Value) : Prop where
  lt : q < w.heap.size
  c0 : w.cell? ⟨q, 0, none⟩ = some x
  c1 : w.cell? ⟨q, 1, none⟩ = some y
  c2 : w.cell? ⟨q, 2, none⟩ = some z
  fr : ∀ j, w.frozen? ⟨q, j, none⟩ = false
theorem B3.set0 {w : World} {q : Nat} {x y z : Value} (h : B3 w q x y z) (u : Value) : B3 (w.setCell ⟨q, 0, none⟩ u) q u y z := ⟨by simpa using h.lt, setc_eq h.c0, setc_ne h.c1 (by decide), setc_ne h.c2 (by decide), fun j => setf (h.fr j)⟩
theorem B3.set1 {w : World} {q : Nat} {x y z : Value} (h : B3 w q x y z) (u : Value) : B3 (w.setCell ⟨q, 1, none⟩ u) q x u z := ⟨by simpa using h.lt, setc_ne h.c0 (by decide), setc_eq h.c1, setc_ne h.c2 (by decide), fun j => setf (h.fr j)⟩
theorem B3.set2 {w : World} {q : Nat} {x y z : Value} (h : B3 w q x y z) (u : Value) : B3 (w.setCell ⟨q, 2, none⟩ u) q x y u := ⟨by simpa using h.lt, setc_ne h.c0 (by decide), setc_ne h.c1 (by decide), setc_eq h.c2, fun j => setf (h.fr j)⟩
theorem B3.upd {S : Nat → Prop} {w w' : World} {q : Nat} {x y z : Value} (h : B3 w q x y z) (u : Upd S w w') (hs : ¬ S q) : B3 w' q x y z := ⟨Nat.lt_of_lt_of_le h.lt u.size, (u.cell (p := ⟨q, 0, none⟩) h.lt hs).trans h.c0, (u.cell (p := ⟨q, 1, none⟩) h.lt hs).trans h.c1, (u.cell (p := ⟨q, 2, none⟩) h.lt hs).trans h.c2, fun j => (u.frozen (p := ⟨q, j, none⟩) h.lt hs).trans (h.fr j)⟩
theorem B3.bel {w w' : World} {q : Nat} {x y z : Value} (h : B3 w q x y z) (hb : Below w.heap.size w w') : B3 w' q x y z := h.upd (S := fun _ => False) (Upd.of_below hb) id
theorem B3.new (w : World) (x y z : Value) (t : TypeId) : B3 (w.alloc (.cells #[x, y, z] t)) w.heap.size x y z := ⟨by simp, by simp, by simp, by simp, fun j => by simp⟩
theorem upd1 (w : World) (b k : Nat) (u : Value) : Upd (fun j => j = b) w (w.setCell ⟨b, k, none⟩ u) := (Upd.refl (fun j => j = b) w).setCell (p := ⟨b, k, none⟩) (.inl rfl) u
set_option maxHeartbeats 1000000 in
theorem fit_any (x : Ap) (w : World) (hx : x.In w) (hs : x.s.length ≤ 140737488355328) : Calls Try.prog 24 #[x.val] w fun e w' => ∃ y : Ap, e = .returned y.val ∧ y.pk = ⟨ad5 x.t, x.s.take 32768, ad5 x.f⟩ ∧ y.In w' ∧ Below w.heap.size w w' := by
  have HT : ∀ o o', Hid (Calls Try.prog 72 #[x.val] ((w.alloc o).alloc o') fun e w' => ∃ y : Ap, e = .returned y.val ∧ y.pk = x.pk ∧ OwnY yU ((w.alloc o).alloc o').heap.size w' (.slice y.a y.s.length y.c) y.s ∧ Below ((w.alloc o).alloc o').heap.size ((w.alloc o).alloc o') w') := fun o o' => twin_any x _ ((SlY.alloc8 hx _).alloc8 _) hs
  obtain ⟨f, t, a, c, s⟩ := x
  unfold Ap.val at HT ⊢
  dsimp only at hs HT ⊢
  clear hx
  go_enter Try.func24, Try.ntmps24
  go_wp2_with fail
  refine (HT _ _).out.mono ?_
  rintro e w1 ⟨y, rfl, hy, ho, hb⟩
  obtain ⟨f2, t2, a2, c2, s2⟩ := y
  unfold Ap.pk at hy
  injection hy with h1 h2 h3
  dsimp only at h1 h2 h3
  subst h1 h2 h3
  have ha1 := fun v => hide (address_any f2 v)
  have ha2 := fun v => hide (address_any t2 v)
  have hz1 : w.heap.size + 1 + 1 ≤ w1.heap.size := by have := hb.size; simp at this; omega
  have Q1 : B3 w1 w.heap.size (.int .i64 f2) (.int .i64 t2) (.slice a s2.length c) := ((B3.new w _ _ _ _).bel ((Below.refl _ _).alloc (Nat.le_refl _) _)).bel hb
  have Q2 : B3 w1 (w.heap.size + 1) (.int .i64 0) (.int .i64 0) (.slice none 0 0) := by
    have := (B3.new (w.alloc (.cells #[.int .i64 f2, .int .i64 t2, .slice a s2.length c] 46)) (.int .i64 0) (.int .i64 0) (.slice none 0 0) 46).bel hb
    simpa using this
  have HO := hide ho
  have HB : Hid (Below w.heap.size w w1) := (bel8 ((Below.refl _ _).alloc (Nat.le_refl _) _) (Nat.le_refl _) _).trans (hb.mono (by simp; omega))
  have hcp : s2.length ≤ c2 := (ho.sl' kU).cap
  have KU : Hid (∀ v, Upd (fun k => k = w.heap.size ∨ k = w.heap.size + 1) w1 v → SlY yU v a2 s2.length c2 s2 ∧ Below w.heap.size w v) := fun v u => ⟨(HO.out.upd1 u (fun k hk e => by have := (HO.out.blk k hk).1; simp at this; omega)).sl' kU, HB.out.trans (u.below HB.out.size (fun k hk => by omega))⟩
  have nq : ¬ w.heap.size + 1 = w.heap.size := by omega
  obtain ⟨_, c0, c1, c3, q1⟩ := Q1
  have HQ2 := hide Q2
  have HQ1 : Hid (B3 w1 w.heap.size (.int .i64 f2) (.int .i64 t2) (.slice a s2.length c)) := ⟨by omega, c0, c1, c3, q1⟩
  clear ho hb HT Q2
  go_wp2_with fail
  refine (ha1 _).out.mono ?_
  rintro e v1 ⟨rfl, rfl⟩
  have G1 := ((HQ1.out.set0 (.int .i64 f2)).set1 (.int .i64 t2)).set2 (.slice a2 s2.length c2)
  have U1 := set3 w1 w.heap.size (.int .i64 f2) (.int .i64 t2) (.slice a2 s2.length c2)
  clear c0 c1 c3 q1
  generalize ((w1.setCell ⟨w.heap.size, 0, none⟩ (.int .i64 f2)).setCell ⟨w.heap.size, 1, none⟩ (.int .i64 t2)).setCell ⟨w.heap.size, 2, none⟩ (.slice a2 s2.length c2) = X1 at *
  have HU1 := hide U1
  have HG1 := hide G1
  obtain ⟨_, c0, c1, c3, q1⟩ := G1
  clear U1
  go_wp2_with fail
  refine (ha2 _).out.mono ?_
  rintro e v2 ⟨rfl, rfl⟩
  have G2 := HG1.out.set0 (.int .i64 (ad5 f2))
  have HU2 := hide (HU1.out.trans (upd1 X1 w.heap.size 0 (.int .i64 (ad5 f2))))
  clear c0 c1 c3 q1
  generalize X1.setCell ⟨w.heap.size, 0, none⟩ (.int .i64 (ad5 f2)) = X2 at *
  have HG2 := hide G2
  obtain ⟨_, c0, c1, c3, q1⟩ := G2
  by_cases hlong : (32768 : Int) < (s2.length : Int)
  · have d1 : decide ((32768 : Int) < (s2.length : Int)) = true := decide_eq_true hlong
    have hc32 : (32768 : Int) ≤ (c2 : Int) := by omega
    have hc33 : 32768 ≤ c2 := by omega
    have hc34 : 32768 ≤ s2.length := by omega
    have HU3 := hide ((HU2.out.trans (upd1 X2 w.heap.size 1 (.int .i64 (ad5 t2)))).trans (upd1 _ w.heap.size 2 (.slice a2 32768 c2)))
    have R3 := hide (HQ2.out.upd HU3.out nq)
    have r3 := R3.out.c0
    have r4 := R3.out.c1
    have r5 := R3.out.c2
    have r6 := R3.out.fr
    have HU4 := hide ((HU3.out.mono (fun k _ e => .inl e)).trans ((set3 _ (w.heap.size + 1) (.int .i64 (ad5 f2)) (.int .i64 (ad5 t2)) (.slice a2 32768 c2)).mono (fun k _ e => Or.inr e)) : Upd (fun k => k = w.heap.size ∨ k = w.heap.size + 1) w1 _)
    go_wp2
    refine bodyPost_ret (v := .agg #[.int .i64 (ad5 f2), .int .i64 (ad5 t2), .slice a2 32768 c2]) (by simp [results, Try.results24, go_sem, r3, r4, r5]) rfl ⟨⟨ad5 f2, ad5 t2, a2, c2, s2.take 32768⟩, ?_, rfl, ?_, (KU.out _ HU4.out).2⟩
    · have : (s2.take 32768).length = 32768 := by rw [List.length_take]; omega
      dsimp only
      rw [this]
    · have h := (KU.out _ HU4.out).1.take 32768 hc34
      show SlY yU _ a2 (s2.take 32768).length c2 (s2.take 32768)
      rw [List.length_take, Nat.min_eq_left hc34]
      exact h
  · have d1 : decide ((32768 : Int) < (s2.length : Int)) = false := decide_eq_false hlong
    have htk : s2.take 32768 = s2 := List.take_of_length_le (by omega)
    have HTK := hide htk
    clear htk
    have HU3 := hide (HU2.out.trans (upd1 X2 w.heap.size 1 (.int .i64 (ad5 t2))))
    have R3 := hide (HQ2.out.upd HU3.out nq)
    have r3 := R3.out.c0
    have r4 := R3.out.c1
    have r5 := R3.out.c2
    have r6 := R3.out.fr
    have HU4 := hide ((HU3.out.mono (fun k _ e => .inl e)).trans ((set3 _ (w.heap.size + 1) (.int .i64 (ad5 f2)) (.int .i64 (ad5 t2)) (.slice a2 s2.length c2)).mono (fun k _ e => Or.inr e)) : Upd (fun k => k = w.heap.size ∨ k = w.heap.size + 1) w1 _)
    go_wp2
    refine bodyPost_ret (v := .agg #[.int .i64 (ad5 f2), .int .i64 (ad5 t2), .slice a2 s2.length c2]) (by simp [results, Try.results24, go_sem, r3, r4, r5]) rfl ⟨⟨ad5 f2, ad5 t2, a2, c2, s2⟩, rfl, ?_, (KU.out _ HU4.out).1, (KU.out _ HU4.out).2⟩
    unfold Ap.pk
    dsimp only
    rw [HTK.out]
end Go.Proofs.Ytjpkdnndhjnkpaa
namespace Go.Proofs.Ytjpkdnndhjnkpaa
open Go.RowKit Go.Maps
variable {w w' : World} {b mb n : Nat} {nn cc : Int} {pv rv : Value} {P R : List Pk} {M : Int → List UInt8 → Nat}
def fitP (x : Ap) : Pk := ⟨ad5 x.t, x.s.take 32768, ad5 x.f⟩
structure NetB (B : Nat) (w : World) (b : Nat) (nn cc : Int) (P : List Pk) (rl : Nat) : Prop where
  ex : ∃ pv rv mb n R M, Net w b nn cc pv rv mb n P R M ∧ B ≤ b ∧ B ≤ mb ∧ (∀ g, pv.ownBlock = some g → B ≤ g) ∧ (∀ g, rv.ownBlock = some g → B ≤ g) ∧ R.length ≤ rl
theorem sR_len (M : Int → List UInt8 → Nat) (R : List Pk) (p : Pk) (i : Nat) : (sR M R p i).length ≤ R.length + 1 := by
  unfold sR
  split <;> simp
theorem send_b (B : Nat) (y : Ap) (rl : Nat) (w : World) (b : Nat) (P : List Pk) (h : NetB B w b 3 2 P rl) (hB : B ≤ w.heap.size) (hy : y.In w) (hs : y.s.length ≤ 32768) (hf : adr 3 2 y.f = true) (ht : adr 3 2 y.t = true) (hl : (P.length + 1) * 32 ≤ 168884986026393) (hr : (rl + 1) * 32 ≤ 168884986026393) :
    Calls Try.prog 25 #[.pointer (some ⟨b, 0, none⟩), y.val] w fun e w' => e = .returned (.int .i64 0) ∧ NetB B w' b 3 2 (P ++ [y.pk]) (rl + 1) ∧ Below B w w' := by
  obtain ⟨pv, rv, mb, n, R, M, h1, h2, h3, h4, h5, h6⟩ := h
  obtain ⟨i, hfi, hi⟩ := adr_lt hf (by omega) (by omega)
  obtain ⟨j, htj, hj⟩ := adr_lt ht (by omega) (by omega)
  refine (send_ok y i h1 hy hfi hi (wf_i64 (by omega)) hf ht hs hl (by omega)).mono ?_
  rintro e w' ⟨rfl, pv', rv', n', k1, k2, k3, k4⟩
  refine ⟨rfl, ⟨pv', rv', mb, n', _, _, k1, h2, h3, fun g hg => ?_, fun g hg => ?_, ?_⟩, k2.below hB (fun k hk => ?_)⟩
  · rcases k3 with e | ⟨k, e, hk⟩
    · exact h4 g (e ▸ hg)
    · rw [e] at hg; cases hg; omega
  · rcases k4 with e | ⟨k, e, hk⟩
    · exact h5 g (e ▸ hg)
    · rw [e] at hg; cases hg; omega
  · have := sR_len M R y.pk i
    omega
  · rcases hk with rfl | rfl | hk | hk
    · exact h2
    · exact h3
    · exact h4 k hk
    · exact h5 k hk
set_option maxHeartbeats 1000000 in
theorem filled_any (L : List Ap) (a : Option Addr) (c : Nat) (w : World) (h : SlY yA w a L.length c L) (hin : ∀ x ∈ L, x.In w ∧ x.s.length ≤ 140737488351232) (hl : L.length * 40 ≤ 140737488351232) :
    Calls Try.prog 36 #[.slice a L.length c] w fun e w' => ∃ b, e = .returned (.pointer (some ⟨b, 0, none⟩)) ∧ NetB w.heap.size w' b 3 2 (L.map fitP) L.length ∧ Below w.heap.size w w' := by
  have HM := hide (made_any w)
  have HL := hide h
  have HI := hide hin
  have hcap := h.cap
  clear h hin
  go_enter Try.func36, Try.ntmps36
  go_wp2_with fail
  refine HM.out.mono ?_
  rintro e w1 ⟨b, mb, rfl, h1, h2, h3, h4⟩
  have I0 : Hid (NetB w.heap.size w1 b 3 2 ((L.take 0).map fitP) 0 ∧ Below w.heap.size w w1) := ⟨⟨_, _, mb, 0, [], _, by simpa using h1, h2, h3, (fun g hg => by cases hg), (fun g hg => by cases hg), Nat.le_refl _⟩, h4⟩
  clear h1 h2 h3 h4 HM
  go_wp2_with fail
  go_loopw [4] (fun i wr => ∃ j : Nat, i = .int .i64 (j : Int) ∧ j ≤ L.length ∧ Hid (NetB w.heap.size wr b 3 2 ((L.take j).map fitP) j ∧ Below w.heap.size w wr)) (fun i _ => L.length - (intOf i).toNat)
  case atStart => exact ⟨0, rfl, Nat.zero_le _, I0⟩
  case round =>
    obtain ⟨j, rfl, hj, HJ⟩ := hrel
    by_cases hlt : j < L.length
    · have d1 : decide ((j : Int) < (L.length : Int)) = true := decide_eq_true (by omega)
      have i1 : (j : Int) < (L.length : Int) := by omega
      have hg := List.getElem?_eq_getElem hlt
      generalize hxe : L[j] = x at hg
      have hxm : x ∈ L := by rw [← hxe]; exact List.getElem_mem _
      obtain ⟨q, o, rfl, hq, hlie⟩ := HL.out.place (by intro e; rw [e] at hlt; simp at hlt)
      have hb := HJ.out.2
      have l0 : wr.cell? ⟨q, o + j * 3, none⟩ = some (.int .i64 x.f) := (hb.cell (p := ⟨q, _, none⟩) hq).trans (hlie _ _ hg 0 _ rfl)
      have l1 : wr.cell? ⟨q, o + j * 3 + 1, none⟩ = some (.int .i64 x.t) := (hb.cell (p := ⟨q, _, none⟩) hq).trans (hlie _ _ hg 1 _ rfl)
      have l2 : wr.cell? ⟨q, o + j * 3 + 2, none⟩ = some (.slice x.a x.s.length x.c) := (hb.cell (p := ⟨q, _, none⟩) hq).trans (hlie _ _ hg 2 _ rfl)
      have HF := hide (fit_any x wr (SlY.later (HI.out x hxm).1 hb) (by have := (HI.out x hxm).2; omega))
      have htk : (L.take (j + 1)).map fitP = (L.take j).map fitP ++ [fitP x] := by rw [List.take_add_one, hg]; simp
      have HTK := hide htk
      have hw1 : IntKind.i64.wrap ((j : Int) + 1) = ((j + 1 : Nat) : Int) := by rw [IntKind.wrap_i64]; omega
      unfold Ap.val at HF
      clear hb hlie hxe hxm hg I0 htk
      go_wp2_with fail
      refine HF.out.mono ?_
      rintro e w2 ⟨y, rfl, hy, hyi, hb2⟩
      have hyp := hy
      unfold Ap.pk at hy
      injection hy with y1 y2 y3
      have hN2 : NetB w.heap.size w2 b 3 2 ((L.take j).map fitP) j := by
        obtain ⟨pv, rv, mb, n, R, M, k1, k2⟩ := HJ.out.1
        exact ⟨pv, rv, mb, n, R, M, k1.later hb2, k2⟩
      have hB2 := HJ.out.2.trans (hb2.mono HJ.out.2.size)
      have HS := hide (send_b w.heap.size y j w2 b _ hN2 hB2.size hyi (by rw [y2, List.length_take]; omega) (by rw [y3]; exact ad5_adr _) (by rw [y1]; exact ad5_adr _) (by rw [List.length_map, List.length_take]; omega) (by omega))
      rw [hyp] at HS
      have HB2 := hide hB2
      unfold Ap.val at HS
      clear hyi hb2 hN2 hB2 y1 y2 y3 hyp HF HJ l0 l1 l2
      go_wp2_with fail
      refine HS.out.mono ?_
      rintro e w3 ⟨rfl, hN3, hB3⟩
      have H3 : Hid (NetB w.heap.size w3 b 3 2 ((L.take (j + 1)).map fitP) (j + 1) ∧ Below w.heap.size w w3) := ⟨by rw [HTK.out]; exact hN3, HB2.out.trans hB3⟩
      clear hN3 hB3 HS HB2
      go_wp2
      exact ⟨⟨j + 1, by go_num, by omega, H3⟩, by simp [intOf]; omega⟩
    · have d1 : decide ((j : Int) < (L.length : Int)) = false := decide_eq_false (by omega)
      have hj2 : j = L.length := by omega
      have HF : Hid (NetB w.heap.size wr b 3 2 (L.map fitP) L.length ∧ Below w.heap.size w wr) := by
        have := HJ.out
        rw [hj2, List.take_length] at this
        exact this
      clear HJ hj2 I0
      go_wp2
      go_ret
      exact ⟨_, rfl, HF.out.1, HF.out.2⟩
end Go.Proofs.Ytjpkdnndhjnkpaa
namespace Go.Proofs.Ytjpkdnndhjnkpaa
open Go.RowKit Go.Maps
variable {w w' : World} {b mb n : Nat} {nn cc : Int} {pv rv : Value} {P R : List Pk} {M : Int → List UInt8 → Nat}
theorem one_ap (w : World) (x : Ap) : SlY yA (w.alloc (.cells #[.int .i64 x.f, .int .i64 x.t, .slice x.a x.s.length x.c] 46)) (some ⟨w.heap.size, 0, none⟩) 1 1 [x] :=
  ⟨rfl, Nat.le_refl _, by unfold maxLen; omega, (fun e => by cases e), fun z hz => .inr ⟨w.heap.size, 0, by cases hz; rfl, by simp, fun i y hy j u hu => by
    match i, hy with
    | 0, hy =>
      simp at hy
      subst hy
      have hj : j < 3 := (List.getElem?_eq_some_iff.1 hu).1
      match j, hj with
      | 0, _ => simp [yA] at hu; subst hu; simp
      | 1, _ => simp [yA] at hu; subst hu; simp
      | 2, _ => simp [yA] at hu; subst hu; simp
    | i + 1, hy => simp at hy⟩⟩
structure Outs (B : Nat) (w : World) (v : Value) (L : List Ap) (P : List Pk) : Prop where
  own : OwnY yA B w v L
  out : ∀ x ∈ L, x.Out B w
  pk : L.map Ap.pk = P
theorem Ap.Out.grownA {B B' : Nat} {w w' : World} {x : Ap} {v : Value} {L : List Ap} (h : x.Out B w) (hv : OwnY yA B' w v L) (hg : w.grownBy w' v.ownBlock) : x.Out B w' := by
  obtain ⟨g, e1, e2, e3⟩ := h.some_
  exact ⟨h.own.grownZ hv (by decide) hg, g, e1, e2, Nat.lt_of_lt_of_le e3 hg.size⟩
theorem Ap.Out.grow {B : Nat} {w w' : World} {x : Ap} (h : x.Out B w) (hb : Below w.heap.size w w') : x.Out B w' := h.upd8 (S := fun _ => False) (Upd.of_below hb) (fun _ _ _ => id)
theorem one_ap1 (w : World) (o : Obj) (x : Ap) : SlY yA ((w.alloc o).alloc (.cells #[.int .i64 x.f, .int .i64 x.t, .slice x.a x.s.length x.c] 46)) (some ⟨w.heap.size + 1, 0, none⟩) 1 1 [x] := by
  have h := one_ap (w.alloc o) x
  rw [show (w.alloc o).heap.size = w.heap.size + 1 by simp] at h
  exact h
set_option maxHeartbeats 1000000 in
theorem pool_any (b : Nat) (P : List Pk) (rl B : Nat) (w : World) (h : NetB B w b nn cc P rl) (hl : (P.length + 1) * 40 ≤ 140737488355328) :
    Calls Try.prog 33 #[.pointer (some ⟨b, 0, none⟩)] w fun e w' => ∃ v L, e = .returned v ∧ Outs w.heap.size w' v L P ∧ Below w.heap.size w w' := by
  obtain ⟨pv, rv, mb, n, R, M, k1, _⟩ := h.ex
  have HN := hide k1
  clear h k1
  go_enter Try.func33, Try.ntmps33
  go_wp2_with fail
  go_loopw [3, 4] (fun v i wr => ∃ (j : Nat) (L : List Ap), i = .int .i64 (j : Int) ∧ j ≤ P.length ∧ Hid (Outs w.heap.size wr v L (P.take j) ∧ Below w.heap.size w wr)) (fun _ i _ => P.length - (intOf i).toNat)
  case atStart => exact ⟨0, [], rfl, Nat.zero_le _, ⟨⟨OwnY.nil _ _ _, (fun x hx => by cases hx), rfl⟩, Below.refl _ _⟩⟩
  case round =>
    obtain ⟨j, L, rfl, hj, HJ⟩ := hrel
    have HLn := hide (len14_any (HN.out.later HJ.out.2))
    have hlj : L.length = j := by
      have := congrArg List.length HJ.out.1.pk
      rw [List.length_map, List.length_take] at this
      omega
    by_cases hlt : j < P.length
    · have d1 : decide ((j : Int) < (P.length : Int)) = true := decide_eq_true (by omega)
      have i1 : (j : Int) < (P.length : Int) := by omega
      have hg := List.getElem?_eq_getElem hlt
      generalize P[j] = p at hg
      have HA := hide (at_ok j p (HN.out.later HJ.out.2) hg)
      have HTK : Hid (P.take (j + 1) = P.take j ++ [p]) := by show _ = _; rw [List.take_add_one, hg]; simp
      have hw1 : IntKind.i64.wrap ((j : Int) + 1) = ((j + 1 : Nat) : Int) := by rw [IntKind.wrap_i64]; omega
      have hlj2 : (L.length + 1) * 40 ≤ 140737488355328 := by omega
      have HLJ := hide hlj
      clear hg hlj
      go_wp2_with fail
      refine HLn.out.mono ?_
      rintro e wr' ⟨rfl, hwr⟩
      subst hwr
      go_wp2_with fail
      refine HA.out.mono ?_
      rintro e w2 ⟨x, rfl, hx, ho, hb⟩
      have HX := hide hx
      have HO := hide ho
      have hb0 := HJ.out.2
      have O2 := HJ.out.1.own.grow hb
      have HB2 := hide (hb0.trans (hb.mono hb0.size))
      have HS2 : Hid (∀ z ∈ L, z.Out w.heap.size w2) := fun z hz => (HJ.out.1.out z hz).upd8 (S := fun _ => False) (Upd.of_below hb) (fun _ _ _ => id)
      have HPK := hide HJ.out.1.pk
      have hsz := hide hb0.size
      obtain ⟨va, vc, hv, _⟩ := O2.form
      have HO2 := hide O2
      have hz2 : w.heap.size ≤ w2.heap.size := HB2.out.size
      clear hx ho hb hb0 O2 HA HLn
      subst hv
      unfold Ap.val
      have BB : ∀ o o', Hid (Below w2.heap.size w2 ((w2.alloc o).alloc o')) := fun o o' => ((Below.refl _ w2).alloc (Nat.le_refl _) o).alloc (by simp) o'
      go_wp2_with (at_builtin; go_must (refine appY kA _ rfl (.tmp 21) (.tmp 23) rfl w.heap.size L (.slice va L.length vc) rfl (some ⟨w2.heap.size + 1, 0, none⟩) 1 1 rfl [x] (one_ap1 w2 _ x) ((HO2.out.alloc _).alloc _) (by simp; omega) (by unfold maxLen; omega) hlj2 ?_))
      intro v3 w3 o3 g3 n3
      have HF : Hid (Outs w.heap.size w3 v3 (L ++ [x]) (P.take (j + 1)) ∧ Below w.heap.size w w3) := by
        have OA := HO2.out.grow (BB (.cells #[.int .i64 x.f, .int .i64 x.t, .slice x.a x.s.length x.c] 46) (.cells #[.int .i64 x.f, .int .i64 x.t, .slice x.a x.s.length x.c] 46)).out
        have BA := HB2.out.trans ((BB (.cells #[.int .i64 x.f, .int .i64 x.t, .slice x.a x.s.length x.c] 46) (.cells #[.int .i64 x.f, .int .i64 x.t, .slice x.a x.s.length x.c] 46)).out.mono hz2)
        refine ⟨⟨o3, fun z hz => ?_, ?_⟩, OA.grown BA g3 (by simp; omega)⟩
        · rcases List.mem_append.1 hz with hz | hz
          · exact ((HS2.out z hz).grow (BB _ _).out).grownA OA g3
          · simp at hz
            subst hz
            exact ((HO.out.low8 hsz.out).grow (BB _ _).out).grownA OA g3
        · rw [List.map_append, HPK.out, HTK.out]
          simp [HX.out]
      have hlen : (L ++ [x]).length = j + 1 := by rw [List.length_append, HLJ.out]; rfl
      clear o3 g3 n3 BB HO2 HS2 HO HPK HB2 HX
      go_wp2
      exact ⟨⟨j + 1, L ++ [x], by go_num, by omega, HF⟩, by simp [intOf]; omega⟩
    · have d1 : decide ((j : Int) < (P.length : Int)) = false := decide_eq_false (by omega)
      have hj2 : j = P.length := by omega
      have HF : Hid (Outs w.heap.size wr u3 L P ∧ Below w.heap.size w wr) := by
        have := HJ.out
        rw [hj2, List.take_length] at this
        exact this
      clear HJ hj2 hlj
      go_wp2_with fail
      refine HLn.out.mono ?_
      rintro e wr' ⟨rfl, hwr⟩
      subst hwr
      go_wp2
      go_ret
      exact ⟨_, L, rfl, HF.out.1, HF.out.2⟩
end Go.Proofs.Ytjpkdnndhjnkpaa
namespace Go.Proofs.Ytjpkdnndhjnkpaa
open Go.RowKit Go.Maps
variable {w w' : World} {b mb n : Nat} {nn cc : Int} {pv rv : Value} {P R : List Pk} {M : Int → List UInt8 → Nat}
theorem fld_mail (t f : Int) (s : ByteArray) (w : World) : (Instr.field 105 (.agg #[.int .i64 t, .string s, .int .i64 f]) 0).run Try.prog w = .ok (.agg #[.int .i64 t, .string s]) w := by kernel_rfl
set_option maxHeartbeats 1000000 in
theorem genuine_any (x : Ap) (h : Net w b nn cc pv rv mb n P R M) (hx : x.In w) (ht : (Lit.int .i64 x.t).wf = true) : Calls Try.prog 22 #[.pointer (some ⟨b, 0, none⟩), x.val] w fun e w' => e = .returned (.bool (!decide ((M x.t x.s : Int) = 0))) ∧ Below w.heap.size w w' := by
  have hmx : x.s.length ≤ maxLen := by have := hx.cap; have := hx.max; omega
  have FACT : Hid (∀ v, Below w.heap.size w v → v.cell? ⟨b, 4, none⟩ = some (.map (some mb)) ∧ (Instr.lookup 82 (.map (some mb)) (.agg #[.int .i64 x.t, .string (bst x.s)]) false).run Try.prog v = .ok (.int .u32 (M x.t x.s : Int)) v ∧ x.In v) := fun v hb => ⟨(hb.cell (p := ⟨b, 4, none⟩) h.lt).trans h.c4, (h.mp.upd (S := fun _ => False) (Upd.of_below hb) id).look ht hmx, SlY.later hx hb⟩
  have HI : Hid (∀ v, x.In v → Calls Try.prog 73 #[x.val] v fun e w' => e = .returned x.pk.val ∧ Below v.heap.size v w') := fun v hv => incoming_any x v hv
  generalize M x.t x.s = m at FACT ⊢
  clear h hx
  unfold Ap.val Pk.val Ap.pk at HI
  unfold Ap.val
  go_enter Try.func22, Try.ntmps22
  go_wp2_with fail
  have HB := B3.new w (.int .i64 x.f) (.int .i64 x.t) (.slice x.a x.s.length x.c) 46
  have HA : Below w.heap.size w (w.alloc (.cells #[.int .i64 x.f, .int .i64 x.t, .slice x.a x.s.length x.c] 46)).drew := ((Below.refl _ _).alloc (Nat.le_refl _) _).drew
  generalize hbs : w.heap.size = bs at *
  generalize hw0 : w.alloc (.cells #[.int .i64 x.f, .int .i64 x.t, .slice x.a x.s.length x.c] 46) = w0 at *
  have KF : Hid (∀ v, Below w0.heap.size w0.drew v → (v.cell? ⟨b, 4, none⟩ = some (.map (some mb)) ∧ v.cell? ⟨bs, 0, none⟩ = some (.int .i64 x.f) ∧ v.cell? ⟨bs, 1, none⟩ = some (.int .i64 x.t) ∧ v.cell? ⟨bs, 2, none⟩ = some (.slice x.a x.s.length x.c) ∧ (Instr.lookup 82 (.map (some mb)) (.agg #[.int .i64 x.t, .string (bst x.s)]) false).run Try.prog v = .ok (.int .u32 (m : Int)) v) ∧ Below bs w v) := fun v hv => by
    have hv2 : Below bs w v := HA.trans (hv.mono (by have := HB.lt; simp; omega))
    have h3 := HB.bel ((Below.refl w0.heap.size w0).drew.trans hv)
    exact ⟨⟨(FACT.out v hv2).1, h3.c0, h3.c1, h3.c2, (FACT.out v hv2).2.1⟩, hv2⟩
  have HI0 := hide (HI.out w0.drew (FACT.out _ HA).2.2)
  have hfm := fld_mail x.t x.f (bst x.s)
  have s0 := (KF.out w0.drew (Below.refl _ _)).1
  clear HA HB hw0 HI FACT
  go_region_held3 (fun v => v.cell? ⟨b, 4, none⟩ = some (.map (some mb)) ∧ v.cell? ⟨bs, 0, none⟩ = some (.int .i64 x.f) ∧ v.cell? ⟨bs, 1, none⟩ = some (.int .i64 x.t) ∧ v.cell? ⟨bs, 2, none⟩ = some (.slice x.a x.s.length x.c) ∧ (Instr.lookup 82 (.map (some mb)) (.agg #[.int .i64 x.t, .string (bst x.s)]) false).run Try.prog v = .ok (.int .u32 (m : Int)) v) (first | with_reducible assumption | go_keep)
    (first | (go_at_call 73; refine HI0.out.mono ?_; rintro e w3 ⟨rfl, hb3⟩; have s1 := (KF.out w3 hb3).1))
  have hfin := (KF.out w3 hb3).2
  subst hbs
  go_wp2
  go_ret
  exact ⟨rfl, hfin⟩
end Go.Proofs.Ytjpkdnndhjnkpaa
namespace Go.Proofs.Ytjpkdnndhjnkpaa
open Go.RowKit Go.Maps
variable {w w' : World} {b mb n : Nat} {nn cc : Int} {pv rv : Value} {P R : List Pk} {M : Int → List UInt8 → Nat}
set_option maxHeartbeats 1000000 in
theorem send_to (x : Ap) (h : Net w b nn cc pv rv mb n P R M) (hf : (Lit.int .i64 x.f).wf = true) (ht : (Lit.int .i64 x.t).wf = true) (hfa : adr nn cc x.f = true) (ha : adr nn cc x.t = false) : Calls Try.prog 25 #[.pointer (some ⟨b, 0, none⟩), x.val] w fun e w' => e = .returned (.int .i64 140) ∧ Below w.heap.size w w' := by
  have HN := hide h
  clear h
  have HA : ∀ o, Hid (Calls Try.prog 75 #[.pointer (some ⟨b, 0, none⟩), .int .i64 x.f] (w.alloc o) fun e w' => e = .returned (.bool true) ∧ w' = w.alloc o) := fun o => by
    have := isAddress_any x.f (HN.out.later ((Below.refl _ _).alloc (Nat.le_refl _) o)) hf
    rw [hfa] at this
    exact this
  have HJ : ∀ o, Hid (Calls Try.prog 35 #[.pointer (some ⟨b, 0, none⟩), x.val] (w.alloc o) fun e w' => e = .returned (.int .i64 140) ∧ Below (w.alloc o).heap.size (w.alloc o) w') := fun o => by
    have := inject_bad x (HN.out.later ((Below.refl _ _).alloc (Nat.le_refl _) o)) ht (.inl ha)
    rw [if_pos ha] at this
    exact this
  unfold Ap.val at HJ ⊢
  go_enter Try.func25, Try.ntmps25
  go_wp2_with fail
  refine (HA _).out.mono ?_
  rintro e w1 ⟨rfl, rfl⟩
  go_wp2_with fail
  refine (HJ _).out.mono ?_
  rintro e w2 ⟨rfl, b2⟩
  have hb := ((Below.refl _ w).alloc (Nat.le_refl _) _).trans (b2.mono (by simp))
  clear b2
  go_wp2
  go_ret
  exact ⟨rfl, hb⟩
theorem cell_m (w : World) (v : Value) (t : TypeId) (r : Nat × Nat) : (w.alloc (.cells #[v] t r)).cell? ⟨w.heap.size, 0, none⟩ = some v := by
  have h : (w.alloc (.cells #[v] t r)).heap[w.heap.size]? = some (.cells #[v] t r) := by
    show (w.heap.push _)[w.heap.size]? = _
    simp
  unfold World.cell?
  rw [h]
  rfl
theorem one_u (w : World) (t : TypeId) : SlY yU (w.alloc (.cells #[.int .u8 97] t (1, 2))) (some ⟨w.heap.size, 0, none⟩) 1 1 [97] :=
  ⟨rfl, Nat.le_refl _, by unfold maxLen; omega, (fun e => by cases e), fun z hz => .inr ⟨w.heap.size, 0, by cases hz; rfl, by simp, fun i y hy j u hu => by
    match i, hy with
    | 0, hy =>
      simp at hy
      subst hy
      have hj : j < 1 := (List.getElem?_eq_some_iff.1 hu).1
      match j, hj with
      | 0, _ => simp [yU] at hu; subst hu; exact cell_m w _ _ _
    | i + 1, hy => simp at hy⟩⟩
theorem conv_a (w : World) : (convert 44 44 (.slice (some ⟨w.heap.size, 0, none⟩) 1 1)).run Try.prog (w.alloc (.cells #[.int .u8 97] 5)) = .ok (.slice (some ⟨w.heap.size, 0, none⟩) 1 1) (w.alloc (.cells #[.int .u8 97] 5 (1, 2))) :=
  Go.Lib.run_convert_bytes_const w 44 5 #[.int .u8 97] 1 1 Try.underlying44 Try.underlying5
set_option maxHeartbeats 2000000 in
theorem works14 (w : World) : Calls Try.prog 12 #[] w fun e w' => e = .returned (.bool true) ∧ Below w.heap.size w w' := by
  have HM := hide (netnew_any 2 1 w (by omega))
  go_enter Try.func12, Try.ntmps12
  go_wp2_with fail
  refine HM.out.mono ?_
  rintro e w1 ⟨b, mb, rfl, h1, h2, h3, h4⟩
  have HN1 := hide h1
  have HB1 := hide h4
  have hz1 := h4.size
  have hcv := conv_a w1
  have hlb := h1.lt
  clear h1 h4 HM
  go_wp2_with fail
  have HB2 := hide ((Below.refl _ w1).alloc (Nat.le_refl _) (.cells #[.int .u8 97] 5 (1, 2)))
  have HX : Hid ((⟨0, 1, some ⟨w1.heap.size, 0, none⟩, 1, [97]⟩ : Ap).In (w1.alloc (.cells #[.int .u8 97] 5 (1, 2)))) := one_u w1 5
  have HZ : (w1.alloc (.cells #[.int .u8 97] 5 (1, 2))).heap.size = w1.heap.size + 1 := by simp
  generalize w1.alloc (.cells #[.int .u8 97] 5 (1, 2)) = w2 at *
  have HB3 := hide ((Below.refl _ w2).alloc (Nat.le_refl _) (.cells #[.int .i64 0, .int .i64 1, .slice (some ⟨w1.heap.size, 0, none⟩) 1 1] 46))
  have HQ := hide (B3.new w2 (.int .i64 0) (.int .i64 1) (.slice (some ⟨w1.heap.size, 0, none⟩) 1 1) 46)
  rw [HZ] at HQ
  have HZ3 : (w2.alloc (.cells #[.int .i64 0, .int .i64 1, .slice (some ⟨w1.heap.size, 0, none⟩) 1 1] 46)).heap.size = w1.heap.size + 2 := by simp [HZ]
  generalize w2.alloc (.cells #[.int .i64 0, .int .i64 1, .slice (some ⟨w1.heap.size, 0, none⟩) 1 1] 46) = w3 at *
  have HB13 : Hid (Below w1.heap.size w1 w3) := HB2.out.trans (HB3.out.mono (by omega))
  have HX3 : Hid ((⟨0, 1, some ⟨w1.heap.size, 0, none⟩, 1, [97]⟩ : Ap).In w3) := SlY.later HX.out HB3.out
  have HS := hide (send_ok ⟨0, 1, some ⟨w1.heap.size, 0, none⟩, 1, [97]⟩ 0 (HN1.out.later HB13.out) HX3.out rfl (by omega) rfl rfl rfl (by show 1 ≤ 32768; decide) (by decide) (by decide))
  clear HB2 HB3 HX HZ hcv
  refine HS.out.mono ?_
  rintro e w4 ⟨rfl, pv4, rv4, n4, N4, U4, k4, k4'⟩
  have HN4 := hide N4
  have hq4 : Hid (B3 w4 (w1.heap.size + 1) (.int .i64 0) (.int .i64 1) (.slice (some ⟨w1.heap.size, 0, none⟩) 1 1)) := HQ.out.upd U4 (fun e => by have := HN1.out.mp.lt; rcases e with e | e | e | e <;> first | omega | cases e)
  have HL4 := hide (len14_any N4)
  have HW4 : Hid (Below w.heap.size w w4) := HB1.out.trans ((HB13.out.mono hz1).trans (U4.below (by omega) (fun k hk => by have := HN1.out.mp.lt; rcases hk with e | e | e | e <;> first | omega | cases e)))
  have HX4 : Hid ((⟨0, 1, some ⟨w1.heap.size, 0, none⟩, 1, [97]⟩ : Ap).In w4) := SlY.upd HX3.out U4 (fun z hz _ e => by have := HN1.out.mp.lt; cases hz; have e' : w1.heap.size = b ∨ w1.heap.size = mb ∨ none = some w1.heap.size ∨ none = some w1.heap.size := e; rcases e' with e | e | e | e <;> first | omega | cases e)
  have HS5 := hide (send_to ⟨0, 2, none, 0, []⟩ N4 rfl rfl rfl rfl)
  clear N4 HS U4 HB13 HX3 HQ
  go_wp2_with fail
  refine HL4.out.mono ?_
  rintro e w4' ⟨rfl, hy_⟩
  rw [hy_]; clear hy_ w4'
  go_wp2_with fail
  refine HS5.out.mono ?_
  rintro e w5 ⟨rfl, b5⟩
  have N5 := HN4.out.later b5
  have HQ5 := hide (hq4.out.bel b5)
  have HW5 := hide (HW4.out.trans (b5.mono HW4.out.size))
  have HX5 := hide (SlY.later HX4.out b5)
  clear b5 HS5 HL4 HN4 HW4 HX4 hq4
  have HT := hide (take_ok 0 ⟨1, [97], 0⟩ N5 rfl (by show 1 * 32 ≤ _; decide))
  have hbl := N5.lt
  have hz5 := HW5.out.size
  clear N5
  go_wp2_with fail
  refine HT.out.mono ?_
  rintro e w6 ⟨x, rfl, hx, ho, pv6, N6, U6, k6⟩
  have hxp : x.f = 0 ∧ x.t = 1 ∧ x.s = [97] := by
    unfold Ap.pk at hx
    injection hx with e1 e2 e3
    exact ⟨e3, e1, e2⟩
  obtain ⟨xf, xt, xa, xc, xs⟩ := x
  obtain ⟨rfl, rfl, rfl⟩ := hxp
  have HQ6 := HQ5.out.upd U6 (fun e => by have := HQ5.out.lt; omega)
  have HX6 := SlY.upd HX5.out U6 (fun z hz _ e => by cases hz; have e' : w1.heap.size = b := e; omega)
  have HW6 := HW5.out.trans (U6.below hz5 (fun k hk => by omega))
  have ho6 := ho.sl
  clear HT hx ho HQ5 HX5 HW5 U6 k6
  have HB7 := (Below.refl _ w6).alloc (Nat.le_refl _) (.cells #[.int .i64 0, .int .i64 1, .slice xa 1 xc] 46)
  have HQ7 := hide (B3.new w6 (.int .i64 0) (.int .i64 1) (.slice xa 1 xc) 46)
  have HP7 := hide (HQ6.bel HB7)
  have HX7 := hide (SlY.later HX6 HB7)
  have HY7 := hide (SlY.later ho6 HB7)
  have HN7 := hide (N6.later HB7)
  have HW7 := hide (HW6.trans (HB7.mono HW6.size))
  have p0 := HP7.out.c0
  have p1 := HP7.out.c1
  have p2 := HP7.out.c2
  clear HB7 HQ6 HX6 HW6 ho6 N6
  unfold Ap.val
  dsimp only [List.length_cons, List.length_nil]
  go_wp2_with fail
  generalize w6.alloc (.cells #[.int .i64 0, .int .i64 1, .slice xa 1 xc] 46) = w7 at *
  have HSm := hide (same14_eq ⟨0, 1, some ⟨w1.heap.size, 0, none⟩, 1, [97]⟩ ⟨0, 1, xa, xc, [97]⟩ w7 HX7.out HY7.out rfl)
  clear p0 p1 p2
  refine HSm.out.mono ?_
  rintro e w8 ⟨rfl, b8⟩
  have HN8 := hide (HN7.out.later b8)
  have HQ8 := HQ7.out.bel b8
  have HY8 : Hid ((⟨0, 1, xa, xc, [97]⟩ : Ap).In w8) := SlY.later HY7.out b8
  have HW8 := hide (HW7.out.trans (b8.mono HW7.out.size))
  have HL8 := hide (len14_any HN8.out)
  have q0 := HQ8.c0
  have q1 := HQ8.c1
  have q2 := HQ8.c2
  clear b8 HSm HN7 HQ7 HY7 HW7 HQ8 HX7 HP7
  go_wp2_with fail
  refine HL8.out.mono ?_
  rintro e w8' ⟨rfl, hy_⟩
  rw [hy_]; clear hy_ w8' HL8
  have HG := hide (genuine_any ⟨0, 1, xa, xc, [97]⟩ HN8.out HY8.out rfl)
  go_wp2_with fail
  refine HG.out.mono ?_
  rintro e w9 ⟨he, b9⟩
  have he' : e = .returned (.bool true) := he.trans (congrArg (fun z => Ending.returned (.bool z)) (by simp [sM, Ap.pk]))
  subst he'
  have HS9 := hide (sent_any (HN8.out.later b9))
  have HW9 := hide (HW8.out.trans (b9.mono HW8.out.size))
  clear b9 HG HW8 HN8 he
  go_wp2_with fail
  refine HS9.out.mono ?_
  rintro e w9' ⟨he, hy_⟩
  have he' : e = .returned (.int .i64 1) := he.trans (congrArg (fun z => Ending.returned (.int .i64 z)) (by simp [sR, Ap.pk]))
  subst he'
  rw [hy_]; clear hy_ w9' HS9 he
  go_wp2
  go_ret
  exact ⟨rfl, HW9.out⟩
end Go.Proofs.Ytjpkdnndhjnkpaa
namespace Go.Proofs.Ytjpkdnndhjnkpaa
open Go.RowKit Go.Maps
def Ap.Ow (B : Nat) (w : World) (x : Ap) : Prop := OwnY yU B w (.slice x.a x.s.length x.c) x.s
theorem Ap.Ow.sl {B : Nat} {w : World} {x : Ap} (h : x.Ow B w) : x.In w := OwnY.sl' kU h
theorem Ap.Ow.grow {B : Nat} {w w' : World} {x : Ap} (h : x.Ow B w) (hb : Below w.heap.size w w') : x.Ow B w' := OwnY.grow h hb
theorem Ap.Ow.low {B B' : Nat} {w : World} {x : Ap} (h : x.Ow B w) (hb : B' ≤ B) : x.Ow B' w := OwnY.low h hb
theorem Ap.Ow.grownA {B B' : Nat} {w w' : World} {x : Ap} {v : Value} {L : List Ap} (h : x.Ow B w) (hv : OwnY yA B' w v L) (hg : w.grownBy w' v.ownBlock) : x.Ow B w' := OwnY.grownZ h hv (by decide) hg
theorem Ap.Ow.upd {S : Nat → Prop} {B : Nat} {w w' : World} {x : Ap} (h : x.Ow B w) (u : Upd S w w') (hs : ∀ k, B ≤ k → k < w.heap.size → ¬ S k) : x.Ow B w' := OwnY.upd1 h u (fun k hk => hs k (OwnY.blk h k hk).1 (OwnY.blk h k hk).2)
structure Lf (B : Nat) (w : World) (v : Value) (L : List Ap) (P : List Pk) : Prop where
  own : OwnY yA B w v L
  ow : ∀ x ∈ L, x.Ow B w
  pk : L.map Ap.pk = P
theorem Lf.grow {B : Nat} {w w' : World} {v : Value} {L : List Ap} {P : List Pk} (h : Lf B w v L P) (hb : Below w.heap.size w w') : Lf B w' v L P := ⟨h.own.grow hb, fun x hx => (h.ow x hx).grow hb, h.pk⟩
theorem Lf.upd {S : Nat → Prop} {B : Nat} {w w' : World} {v : Value} {L : List Ap} {P : List Pk} (h : Lf B w v L P) (u : Upd S w w') (hs : ∀ k, B ≤ k → k < w.heap.size → ¬ S k) : Lf B w' v L P := ⟨h.own.upd1 u (fun k hk => hs k (h.own.blk k hk).1 (h.own.blk k hk).2), fun x hx => (h.ow x hx).upd u hs, h.pk⟩
theorem Lf.len {B : Nat} {w : World} {v : Value} {L : List Ap} {P : List Pk} (h : Lf B w v L P) : L.length = P.length := by
  have := congrArg List.length h.pk
  rwa [List.length_map] at this
end Go.Proofs.Ytjpkdnndhjnkpaa
namespace Go.Proofs.Ytjpkdnndhjnkpaa
open Go.RowKit Go.Maps
/-! ### A net that no call made -/
structure Zn (w : World) (b : Nat) : Prop where
  lt : b < w.heap.size
  c0 : w.cell? ⟨b, 0, none⟩ = some (.int .i64 0)
  c1 : w.cell? ⟨b, 1, none⟩ = some (.int .i64 0)
  c2 : w.cell? ⟨b, 2, none⟩ = some (.slice none 0 0)
  c3 : w.cell? ⟨b, 3, none⟩ = some (.slice none 0 0)
  c4 : w.cell? ⟨b, 4, none⟩ = some (.map none)
  fr : ∀ i, w.frozen? ⟨b, i, none⟩ = false
variable {w w' : World} {b : Nat}
theorem Zn.later (h : Zn w b) (hb : Below w.heap.size w w') : Zn w' b :=
  ⟨Nat.lt_of_lt_of_le h.lt hb.size, (hb.cell (p := ⟨b, 0, none⟩) h.lt).trans h.c0, (hb.cell (p := ⟨b, 1, none⟩) h.lt).trans h.c1, (hb.cell (p := ⟨b, 2, none⟩) h.lt).trans h.c2, (hb.cell (p := ⟨b, 3, none⟩) h.lt).trans h.c3, (hb.cell (p := ⟨b, 4, none⟩) h.lt).trans h.c4, fun i => (hb.frozen (p := ⟨b, i, none⟩) h.lt).trans (h.fr i)⟩
theorem Zn.al (h : Zn w b) (o : Obj) : Zn (w.alloc o) b := h.later ((Below.refl _ _).alloc (Nat.le_refl _) o)
end Go.Proofs.Ytjpkdnndhjnkpaa
namespace Go.Proofs.Ytjpkdnndhjnkpaa
open Go.RowKit Go.Maps
variable {w w' : World} {b : Nat}
set_option maxHeartbeats 1000000 in
theorem take_gen (q : Option Addr) (k ea ed : Int) (w : World) (HA : ∀ o, Calls Try.prog 18 #[.pointer q, .int .i64 k] (w.alloc o) fun e w' => e = .returned (.tuple #[.agg #[.int .i64 0, .int .i64 0, .slice none 0 0], .int .i64 ea]) ∧ Below (w.alloc o).heap.size (w.alloc o) w') (HD : ∀ v, Below w.heap.size w v → Calls Try.prog 29 #[.pointer q, .int .i64 k] v fun e w' => e = .returned (.int .i64 ed) ∧ w' = v) :
    Calls Try.prog 26 #[.pointer q, .int .i64 k] w fun e w' => e = .returned (.tuple #[.agg #[.int .i64 0, .int .i64 0, .slice none 0 0], .int .i64 ed]) ∧ Below w.heap.size w w' := by
  have HA' := hide HA
  have HD' := hide HD
  clear HA HD
  go_enter Try.func26, Try.ntmps26
  go_wp2_with fail
  refine (HA'.out _).mono ?_
  rintro e w1 ⟨rfl, hb⟩
  have r0 : w1.cell? ⟨w.heap.size, 0, none⟩ = some (.int .i64 0) := (hb.cell (p := ⟨w.heap.size, 0, none⟩) (by simp)).trans (by go_simp)
  have r1 : w1.cell? ⟨w.heap.size, 1, none⟩ = some (.int .i64 0) := (hb.cell (p := ⟨w.heap.size, 1, none⟩) (by simp)).trans (by go_simp)
  have r2 : w1.cell? ⟨w.heap.size, 2, none⟩ = some (.slice none 0 0) := (hb.cell (p := ⟨w.heap.size, 2, none⟩) (by simp)).trans (by go_simp)
  have t0 : ∀ j, w1.frozen? ⟨w.heap.size, j, none⟩ = false := fun j => (hb.frozen (p := ⟨w.heap.size, j, none⟩) (by simp)).trans (by go_simp)
  have hzz : w.heap.size < w1.heap.size := by have := hb.size; simp at this; omega
  have HB := hide (((Below.refl w.heap.size w).alloc (Nat.le_refl _) (.cells #[.int .i64 0, .int .i64 0, .slice none 0 0] 46)).trans (hb.mono (by simp)))
  clear hb HA'
  go_wp2_with fail
  have BB : Below w1.heap.size w1 (w1.alloc (.cells #[.int .i64 0, .int .i64 0, .slice none 0 0] 46)) := (Below.refl _ _).alloc (Nat.le_refl _) _
  have r0' := (BB.cell (p := ⟨w.heap.size, 0, none⟩) hzz).trans r0
  have r1' := (BB.cell (p := ⟨w.heap.size, 1, none⟩) hzz).trans r1
  have r2' := (BB.cell (p := ⟨w.heap.size, 2, none⟩) hzz).trans r2
  have t0' : ∀ j, (w1.alloc (.cells #[.int .i64 0, .int .i64 0, .slice none 0 0] 46)).frozen? ⟨w.heap.size, j, none⟩ = false := fun j => (BB.frozen (p := ⟨w.heap.size, j, none⟩) hzz).trans (t0 j)
  have s0 : (w1.alloc (.cells #[.int .i64 0, .int .i64 0, .slice none 0 0] 46)).cell? ⟨w1.heap.size, 0, none⟩ = some (.int .i64 0) := by simp
  have s1 : (w1.alloc (.cells #[.int .i64 0, .int .i64 0, .slice none 0 0] 46)).cell? ⟨w1.heap.size, 1, none⟩ = some (.int .i64 0) := by simp
  have s2 : (w1.alloc (.cells #[.int .i64 0, .int .i64 0, .slice none 0 0] 46)).cell? ⟨w1.heap.size, 2, none⟩ = some (.slice none 0 0) := by simp
  have WB := hide (HB.out.trans (BB.mono HB.out.size))
  clear BB r0 r1 r2 t0 HB
  generalize w1.alloc (.cells #[.int .i64 0, .int .i64 0, .slice none 0 0] 46) = w2 at *
  have HE := hide (HD'.out w2.drew WB.out.drew)
  go_region_with (refine HE.out.mono ?_; rintro e w3 ⟨rfl, hy_⟩; rw [hy_]; clear hy_ w3)
  all_goals
    clear HE HD'
    go_wp2
    refine bodyPost_ret (v := .tuple #[.agg #[.int .i64 0, .int .i64 0, .slice none 0 0], .int .i64 ed]) (by simp [results, Try.results26, go_sem, r0', r1', r2']) rfl ⟨rfl, ?_⟩
    exact WB.out.drew.trans ((set3 w2.drew w.heap.size _ _ _).below WB.out.drew.size (fun k hk => by omega))
end Go.Proofs.Ytjpkdnndhjnkpaa
namespace Go.Proofs.Ytjpkdnndhjnkpaa
open Go.RowKit Go.Maps
def yJ : Lay Int := ⟨3, 74, 1, 8, fun x => [.int .i64 x], 0⟩
theorem kJ : yJ.Ok := ⟨by decide, fun x => rfl, fun x u h => by
    simp [yJ] at h
    subst h
    rfl, Try.underlying74, ⟨.int .i64 0, by kernel_rfl, rfl⟩⟩
theorem NetB.later {B : Nat} {w w' : World} {b : Nat} {nn cc : Int} {P : List Pk} {rl : Nat} (h : NetB B w b nn cc P rl) (hb : Below w.heap.size w w') : NetB B w' b nn cc P rl := by
  obtain ⟨pv, rv, mb, n, R, M, k1, k2⟩ := h.ex
  exact ⟨pv, rv, mb, n, R, M, k1.later hb, k2⟩
theorem NetB.lt {B : Nat} {w : World} {b : Nat} {nn cc : Int} {P : List Pk} {rl : Nat} (h : NetB B w b nn cc P rl) : b < w.heap.size ∧ B ≤ b := by
  obtain ⟨pv, rv, mb, n, R, M, k1, k2, _⟩ := h.ex
  exact ⟨k1.lt, k2⟩
end Go.Proofs.Ytjpkdnndhjnkpaa
namespace Go.Proofs.Ytjpkdnndhjnkpaa
open Go.RowKit Go.Maps
def fo (P : List Pk) (a : Int) : Nat → List Int
  | 0 => []
  | j + 1 => if (P[j]?).map Pk.t = some a then fo P a j ++ [(j : Int)] else fo P a j
theorem fo_yes {P : List Pk} {a : Int} {j : Nat} {p : Pk} (hp : P[j]? = some p) (h : p.t = a) : fo P a (j + 1) = fo P a j ++ [(j : Int)] := by
  simp [fo, hp, h]
theorem fo_no {P : List Pk} {a : Int} {j : Nat} {p : Pk} (hp : P[j]? = some p) (h : ¬ p.t = a) : fo P a (j + 1) = fo P a j := by
  simp [fo, hp, h]
theorem fo_len (P : List Pk) (a : Int) : ∀ j, (fo P a j).length ≤ j
  | 0 => Nat.le_refl _
  | j + 1 => by
    have := fo_len P a j
    unfold fo
    split
    · simp; omega
    · omega
theorem one_j (w : World) (x : Int) : SlY yJ (w.alloc (.cells #[.int .i64 x] 3)) (some ⟨w.heap.size, 0, none⟩) 1 1 [x] :=
  ⟨rfl, Nat.le_refl _, by unfold maxLen; omega, (fun e => by cases e), fun y hy => .inr ⟨w.heap.size, 0, by cases hy; rfl, by simp, fun i z hz j u hu => by
    match i, hz with
    | 0, hz =>
      simp at hz
      subst hz
      have hj : j < 1 := (List.getElem?_eq_some_iff.1 hu).1
      match j, hj with
      | 0, _ => simp [yJ] at hu; subst hu; simp
    | i + 1, hz => simp at hz⟩⟩
variable {w w' : World} {b mb n : Nat} {nn cc : Int} {pv rv : Value} {P R : List Pk} {M : Int → List UInt8 → Nat}
set_option maxHeartbeats 1000000 in
theorem for_any (k : Int) (h : Net w b nn cc pv rv mb n P R M) (hk : (Lit.int .i64 k).wf = true) (hl : (P.length + 1) * 8 ≤ 140737488355328) : Calls Try.prog 40 #[.pointer (some ⟨b, 0, none⟩), .int .i64 k] w fun e w' => ∃ v, e = .returned v ∧ OwnY yJ w.heap.size w' v (fo P k P.length) ∧ Below w.heap.size w w' := by
  obtain ⟨a, c, rfl, hs⟩ := h.pl.sl
  have c2 := h.c2
  have HS := hide hs
  clear h hs
  go_enter Try.func40, Try.ntmps40
  go_wp2_with fail
  go_loopw [5, 15] (fun v i wr => ∃ j : Nat, i = .int .i64 (j : Int) ∧ j ≤ P.length ∧ Hid (OwnY yJ w.heap.size wr v (fo P k j) ∧ Below w.heap.size w wr)) (fun _ i _ => P.length - (intOf i).toNat)
  case atStart => exact ⟨0, rfl, Nat.zero_le _, OwnY.nil _ _ _, Below.refl _ _⟩
  case round =>
    obtain ⟨j, rfl, hj, HJ⟩ := hrel
    have hw1 : IntKind.i64.wrap ((j : Int) + 1) = ((j + 1 : Nat) : Int) := by rw [IntKind.wrap_i64]; omega
    by_cases hlt : j < P.length
    · have d1 : decide ((j : Int) < (P.length : Int)) = true := decide_eq_true (by omega)
      have i1 : (j : Int) < (P.length : Int) := by omega
      have hg := List.getElem?_eq_getElem hlt
      generalize P[j] = p at hg
      obtain ⟨q, o, rfl, hq, hl⟩ := (HS.out.later HJ.out.2).place (by intro e; rw [e] at hg; simp at hg)
      have l0 : wr.cell? ⟨q, o + j * 3, none⟩ = some (.int .i64 p.t) := hl _ _ hg 0 _ rfl
      have l1 : wr.cell? ⟨q, o + j * 3 + 1, none⟩ = some (.string (bst p.s)) := hl _ _ hg 1 _ rfl
      have l2 : wr.cell? ⟨q, o + j * 3 + 2, none⟩ = some (.int .i64 p.f) := hl _ _ hg 2 _ rfl
      have hcap := HS.out.cap
      have HG := hide hg
      clear hg hl
      by_cases hpa : p.t = k
      · subst hpa
        have O2 := HJ.out.1
        have HB2 := hide HJ.out.2
        obtain ⟨va, vc, hv, _⟩ := O2.form
        have HO2 := hide O2
        have hjl := fo_len P p.t j
        have hjl2 : ((fo P p.t j).length + 1) * 8 ≤ 140737488355328 := by omega
        have hz : w.heap.size ≤ wr.heap.size := HB2.out.size
        have HFY := hide (fo_yes HG.out rfl)
        clear O2 HJ
        subst hv
        generalize fo P p.t j = L at hjl hjl2 HO2 HFY
        have HL := hide hjl
        clear hjl
        have BB : ∀ o o', Hid (Below wr.heap.size wr ((wr.alloc o).alloc o')) := fun o o' => ((Below.refl _ wr).alloc (Nat.le_refl _) o).alloc (by simp) o'
        have ON : ∀ o, Hid (SlY yJ ((wr.alloc o).alloc (.cells #[.int .i64 (j : Int)] 3)) (some ⟨wr.heap.size + 1, 0, none⟩) 1 1 [(j : Int)]) := fun o => by
          have h := one_j (wr.alloc o) (j : Int)
          rw [show (wr.alloc o).heap.size = wr.heap.size + 1 by simp] at h
          exact h
        go_wp2_with (at_builtin; go_must (refine appY kJ _ rfl (.tmp 25) (.tmp 27) rfl w.heap.size L (.slice va L.length vc) rfl (some ⟨wr.heap.size + 1, 0, none⟩) 1 1 rfl [(j : Int)] (ON _).out ((HO2.out.alloc _).alloc _) (by simp; omega) (by unfold maxLen; omega) hjl2 ?_))
        intro v3 w3 o3 g3 n3
        have HF : Hid (OwnY yJ w.heap.size w3 v3 (fo P p.t (j + 1)) ∧ Below w.heap.size w w3) := by
          have OA := HO2.out.grow (BB (.cells #[.int .i64 p.t, .string (bst p.s), .int .i64 p.f] 105) (.cells #[.int .i64 (j : Int)] 3)).out
          have BA := HB2.out.trans ((BB (.cells #[.int .i64 p.t, .string (bst p.s), .int .i64 p.f] 105) (.cells #[.int .i64 (j : Int)] 3)).out.mono hz)
          refine ⟨?_, OA.grown BA g3 (by simp; omega)⟩
          rw [HFY.out]
          exact o3
        clear o3 g3 n3 BB HO2 HB2 ON
        go_wp2
        exact ⟨⟨j + 1, by go_num, by omega, HF⟩, by simp [intOf]; omega⟩
      · have d2 : decide (p.t = k) = false := decide_eq_false hpa
        have HF : ∀ o', Hid (OwnY yJ w.heap.size (wr.alloc o') u5 (fo P k (j + 1)) ∧ Below w.heap.size w (wr.alloc o')) := fun o' => by
          refine ⟨?_, HJ.out.2.alloc HJ.out.2.size _⟩
          rw [fo_no HG.out hpa]
          exact HJ.out.1.alloc _
        go_wp2
        exact ⟨⟨j + 1, by go_num, by omega, HF _⟩, by simp [intOf]; omega⟩
    · have d1 : decide ((j : Int) < (P.length : Int)) = false := decide_eq_false (by omega)
      have hj2 : j = P.length := by omega
      have HF : Hid (OwnY yJ w.heap.size wr u5 (fo P k P.length) ∧ Below w.heap.size w wr) := by
        have := HJ.out
        rw [hj2] at this
        exact this
      go_wp2
      go_ret
      exact ⟨_, rfl, HF.out.1, HF.out.2⟩
end Go.Proofs.Ytjpkdnndhjnkpaa
