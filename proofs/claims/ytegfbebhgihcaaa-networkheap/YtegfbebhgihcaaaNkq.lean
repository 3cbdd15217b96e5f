import Derived.Test.YtegfbebhgihcaaaNkh
import Derived.Test.YtegfbebhgihcaaaGYa
namespace Go.Proofs.Ytegfbebhgihcaaa
open Go.RowKit Go.Maps
set_option linter.unusedVariables false
set_option linter.unusedSimpArgs false

variable {w w' : World} {b mb n : Nat} {nn cc : Int} {pv rv : Value} {P R : List Pk} {M : Int → List UInt8 → Nat}
set_option maxRecDepth 100000 in
set_option maxHeartbeats 1000000 in
theorem clone14 (P : List Pk) (y : Addr) (c : Nat) (w : World) (h : SlY yP w (some y) P.length c P) (hb : P.length * 32 ≤ 168884986026393) (hp : 0 < P.length) :
    Calls Try.prog 79 #[.slice (some y) P.length c] w fun e w' => ∃ g k, e = .returned (.slice (some ⟨g, 0, none⟩) P.length k) ∧ OwnY yP w.heap.size w' (.slice (some ⟨g, 0, none⟩) P.length k) P ∧ w.heap.size ≤ g ∧ g < w'.heap.size ∧ Below w.heap.size w w' := by
  have kn := fun (w : World) => Lib.run_eql_slice_nil (P := Try.prog) w 81 105 (some y) P.length c 0 0 Try.underlying81
  have HS : ∀ o, Hid (SlY yP (w.alloc o) (some y) P.length c P) := fun o => h.alloc8 _
  have HE : Hid (OwnY yP w.heap.size (w.alloc (.cells #[] 105)) (.slice (some ⟨w.heap.size, 0, none⟩) 0 0) []) := World.ownsRow_made w #[] 0 (Nat.le_refl _) (by unfold maxLen; omega) rfl
  have hb' : (0 + P.length) * 32 ≤ 168884986026393 := by omega
  clear h
  go_enter Try.func79, Try.ntmps79
  go_wp2_with (at_builtin; go_must (refine appY2 kP (by decide) _ rfl (.tmp 5) (.tmp 6) rfl w.heap.size [] (.slice (some ⟨w.heap.size, 0, none⟩) 0 0) rfl (some y) P.length c rfl P (HS _).out HE.out (by simp) (by unfold maxLen; simp; omega) hb' ?_))
  intro v1 w1 o1 g1 n1
  obtain ⟨a1, c1, hv1, _, _, hnil, hsome⟩ := o1.form
  have HB : Hid (Below w.heap.size w w1) := ((Below.refl _ _).alloc (Nat.le_refl _) _).grown g1 (by simp) (fun k hk => by cases hk; exact Nat.le_refl _)
  obtain ⟨g, hg1, hg2, hg3⟩ : ∃ g, a1 = some ⟨g, 0, none⟩ ∧ w.heap.size ≤ g ∧ g < w1.heap.size := by
    cases a1 with
    | none => have := (hnil rfl).1; rw [this] at hp; simp at hp
    | some z => obtain ⟨g, rfl, h1, h2⟩ := hsome z rfl; exact ⟨g, rfl, h1, h2⟩
  subst hg1
  subst hv1
  have HO := hide o1
  clear o1 g1 n1 hnil hsome HS HE
  go_wp2
  go_ret
  exact ⟨g, c1, rfl, HO.out, hg2, hg3, HB.out⟩
theorem set3P {B : Nat} {w : World} {g n c : Nat} {l : List Pk} (h : OwnY yP B w (.slice (some ⟨g, 0, none⟩) n c) l) {i : Nat} {x : Pk} (hx : l[i]? = some x) (y : Pk) :
    OwnY yP B (((w.setCell ⟨g, i * 3, none⟩ (.int .i64 y.t)).setCell ⟨g, i * 3 + 1, none⟩ (.string (bst y.s))).setCell ⟨g, i * 3 + 2, none⟩ (.int .i64 y.f)) (.slice (some ⟨g, 0, none⟩) n c) (l.set i y) := by
  have hi := (List.getElem?_eq_some_iff.1 hx).1
  have h1 := h.set1 kP hx ⟨y.t, x.s, x.f⟩ 0 (.int .i64 y.t) (by decide) rfl
  have h2 := h1.set1 kP (x := ⟨y.t, x.s, x.f⟩) (i := i) (by rw [List.getElem?_set_self hi]) ⟨y.t, y.s, x.f⟩ 1 (.string (bst y.s)) (by decide) rfl
  have h3 := h2.set1 kP (x := ⟨y.t, y.s, x.f⟩) (i := i) (by rw [List.getElem?_set_self (by rw [List.length_set]; exact hi)]) y 2 (.int .i64 y.f) (by decide) rfl
  rw [List.set_set, List.set_set] at h3
  exact h3
theorem upd3P (w : World) (g i : Nat) (y : Pk) : Upd (fun j => j = g) w (((w.setCell ⟨g, i * 3, none⟩ (.int .i64 y.t)).setCell ⟨g, i * 3 + 1, none⟩ (.string (bst y.s))).setCell ⟨g, i * 3 + 2, none⟩ (.int .i64 y.f)) :=
  (((Upd.refl (fun j => j = g) w).setCell (p := ⟨g, i * 3, none⟩) (.inl rfl) _).setCell (p := ⟨g, i * 3 + 1, none⟩) (.inl rfl) _).setCell (p := ⟨g, i * 3 + 2, none⟩) (.inl rfl) _
theorem swap_bad (i k : Int) (h : Net w b nn cc pv rv mb n P R M) (hk : (i < 0 ∨ (P.length : Int) ≤ i) ∨ (k < 0 ∨ (P.length : Int) ≤ k)) : Calls Try.prog 31 #[.pointer (some ⟨b, 0, none⟩), .int .i64 i, .int .i64 k] w fun e w' => e = .returned (.int .i64 141) ∧ w' = w := by
  have c2 := h.c2
  obtain ⟨a, c, rfl, hsl⟩ := h.pl.sl
  have HW := fun z => hide (isWithin_any z (P.length : Int) w)
  clear h hsl
  cases e1 : (decide (0 ≤ i) && decide (i < (P.length : Int))) with
  | false =>
    have H1 := HW i
    rw [e1] at H1
    clear e1 hk HW
    go_enter Try.func31, Try.ntmps31
    go_wp2_with fail
    refine H1.out.mono ?_
    rintro e w1 ⟨rfl, hy_⟩
    rw [hy_]; clear hy_ w1
    go_wp2
    go_ret
    exact ⟨rfl, rfl⟩
  | true =>
    have H1 := HW i
    rw [e1] at H1
    have H2 := HW k
    have e2 : (decide (0 ≤ k) && decide (k < (P.length : Int))) = false := by
      simp only [Bool.and_eq_true, decide_eq_true_eq] at e1
      simp
      omega
    rw [e2] at H2
    clear e1 e2 hk HW
    go_enter Try.func31, Try.ntmps31
    go_wp2_with fail
    refine H1.out.mono ?_
    rintro e w1 ⟨rfl, hy_⟩
    rw [hy_]; clear hy_ w1
    go_wp2_with fail
    refine H2.out.mono ?_
    rintro e w1 ⟨rfl, hy_⟩
    rw [hy_]; clear hy_ w1
    go_wp2
    go_ret
    exact ⟨rfl, rfl⟩
set_option maxRecDepth 100000 in
set_option maxHeartbeats 2000000 in
theorem swap_ok (i k : Nat) (x y : Pk) (h : Net w b nn cc pv rv mb n P R M) (hx : P[i]? = some x) (hy : P[k]? = some y) (hl : P.length * 32 ≤ 168884986026393) : Calls Try.prog 31 #[.pointer (some ⟨b, 0, none⟩), .int .i64 (i : Int), .int .i64 (k : Int)] w fun e w' => e = .returned (.int .i64 0) ∧ ∃ pv', Net w' b nn cc pv' rv mb n ((P.set i y).set k x) R M ∧ Upd (fun k => k = b) w w' ∧ ∃ g, pv'.ownBlock = some g ∧ w.heap.size ≤ g := by
  have hi : i < P.length := (List.getElem?_eq_some_iff.1 hx).1
  have hk : k < P.length := (List.getElem?_eq_some_iff.1 hy).1
  have HN := hide h
  have c2 := h.c2
  have f2 := h.fr 2
  have hlt := h.lt
  obtain ⟨a, c, hpv, hsl⟩ := h.pl.sl
  subst hpv
  obtain ⟨q, o, ha, hq, hlie⟩ := hsl.place (by intro e; rw [e] at hk; simp at hk)
  subst ha
  have HW : ∀ (z : Nat), z < P.length → Hid (Calls Try.prog 77 #[.int .i64 (z : Int), .int .i64 (P.length : Int)] w fun e w' => e = .returned (.bool true) ∧ w' = w) := fun z hz => by
    have := isWithin_any (z : Int) (P.length : Int) w
    rw [decide_eq_true (show (0 : Int) ≤ z by omega), decide_eq_true (show (z : Int) < P.length by omega)] at this
    exact this
  have HC := hide (clone14 P ⟨q, o, none⟩ c w hsl hl (by omega))
  have H1 := HW i hi
  have H2 := HW k hk
  have HX := hide hx
  have HY := hide hy
  clear h hsl hlie HW hx hy
  go_enter Try.func31, Try.ntmps31
  go_wp2_with fail
  refine H1.out.mono ?_
  rintro e w1 ⟨rfl, hy_⟩
  rw [hy_]; clear hy_ w1
  go_wp2_with fail
  refine H2.out.mono ?_
  rintro e w1 ⟨rfl, hy_⟩
  rw [hy_]; clear hy_ w1
  go_wp2_with fail
  refine HC.out.mono ?_
  rintro e w2 ⟨g, kc, rfl, o2, hg1, hg2, b2⟩
  have HO2 := hide (o2.grow (Below.refl _ _).drew)
  have HB2 := hide b2
  have S2 := OwnY.sl' kP HO2.out
  obtain ⟨q', o', e', hq', hl'⟩ := S2.place (by intro e; rw [e] at hk; simp at hk)
  cases e'
  have i1 : (i : Int) < (P.length : Int) := by omega
  have i2 : (k : Int) < (P.length : Int) := by omega
  have x0 : w2.drew.cell? ⟨g, i * 3, none⟩ = some (.int .i64 x.t) := by have := hl' _ _ HX.out 0 _ rfl; simpa [yP] using this
  have x1 : w2.drew.cell? ⟨g, i * 3 + 1, none⟩ = some (.string (bst x.s)) := by have := hl' _ _ HX.out 1 _ rfl; simpa [yP] using this
  have x2 : w2.drew.cell? ⟨g, i * 3 + 2, none⟩ = some (.int .i64 x.f) := by have := hl' _ _ HX.out 2 _ rfl; simpa [yP] using this
  have y0 : w2.drew.cell? ⟨g, k * 3, none⟩ = some (.int .i64 y.t) := by have := hl' _ _ HY.out 0 _ rfl; simpa [yP] using this
  have y1 : w2.drew.cell? ⟨g, k * 3 + 1, none⟩ = some (.string (bst y.s)) := by have := hl' _ _ HY.out 1 _ rfl; simpa [yP] using this
  have y2 : w2.drew.cell? ⟨g, k * 3 + 2, none⟩ = some (.int .i64 y.f) := by have := hl' _ _ HY.out 2 _ rfl; simpa [yP] using this
  have x0' : w2.cell? ⟨g, i * 3, none⟩ = some (.int .i64 x.t) := x0
  have x1' : w2.cell? ⟨g, i * 3 + 1, none⟩ = some (.string (bst x.s)) := x1
  have x2' : w2.cell? ⟨g, i * 3 + 2, none⟩ = some (.int .i64 x.f) := x2
  have y0' : w2.cell? ⟨g, k * 3, none⟩ = some (.int .i64 y.t) := y0
  have y1' : w2.cell? ⟨g, k * 3 + 1, none⟩ = some (.string (bst y.s)) := y1
  have y2' : w2.cell? ⟨g, k * 3 + 2, none⟩ = some (.int .i64 y.f) := y2
  have fz : ∀ j, w2.frozen? ⟨g, j, none⟩ = false := fun j => o2.free j
  have HFIN : Hid (∀ W3 : World, OwnY yP w.heap.size W3 (.slice (some ⟨g, 0, none⟩) P.length kc) ((P.set i y).set k x) → Upd (fun j => j = g) w2 W3 → Net (W3.setCell ⟨b, 2, none⟩ (.slice (some ⟨g, 0, none⟩) P.length kc)) b nn cc (.slice (some ⟨g, 0, none⟩) P.length kc) rv mb n ((P.set i y).set k x) R M ∧ Upd (fun k => k = b) w (W3.setCell ⟨b, 2, none⟩ (.slice (some ⟨g, 0, none⟩) P.length kc))) := fun W3 o3 u3 => by
    have b3 : Below w.heap.size w W3 := b2.trans (u3.below b2.size (fun j hj => by omega))
    have u : Upd (fun k => (Value.slice (some ⟨q, o, none⟩) P.length c).ownBlock = some k) w W3 := Upd.of_below b3
    refine ⟨(HN.out.setPool u (.inl (o3.low (Nat.zero_le _))) (.inr (.inr ⟨g, rfl, hg1⟩)) (fun j hj => by cases hj; exact Nat.lt_of_lt_of_le hg2 u3.size) (fun p hp => ?_)).1, (Upd.of_below (S := fun k => k = b) b3).setCell (p := ⟨b, 2, none⟩) (.inl rfl) _⟩
    rcases List.mem_or_eq_of_mem_set hp with hp | rfl
    · rcases List.mem_or_eq_of_mem_set hp with hp | rfl
      · exact HN.out.sp p hp
      · exact HN.out.sp _ (List.mem_of_getElem? HY.out)
    · exact HN.out.sp _ (List.mem_of_getElem? HX.out)
  have c2' : w2.cell? ⟨b, 2, none⟩ = some (.slice (some ⟨q, o, none⟩) P.length c) := (b2.cell (p := ⟨b, 2, none⟩) hlt).trans c2
  have f2' : w2.frozen? ⟨b, 2, none⟩ = false := (b2.frozen (p := ⟨b, 2, none⟩) hlt).trans f2
  have hgb : ¬ g = b := by omega
  have hz2 := b2.size
  have hbg : ¬ b = g := by omega
  have HO := hide o2
  clear o2 b2 S2 hl' hq' HC H1 H2 c2 f2 HO2 HB2
  by_cases hik : i = k
  · subst hik
    have hxy : x = y := Option.some.inj (HX.out.symm.trans HY.out)
    subst hxy
    have HP := hide (set3P HO.out HX.out x)
    have HP2 := hide (set3P HP.out (show (P.set i x)[i]? = some x by rw [List.getElem?_set_self hi]) x)
    go_wp2_with fail
    go_region
    have U6 : Upd (fun j => j = g) w2 (((((((w2.setCell ⟨g, i * 3, none⟩ (.int .i64 x.t)).setCell ⟨g, i * 3 + 1, none⟩ (.string (bst x.s))).setCell ⟨g, i * 3 + 2, none⟩ (.int .i64 x.f)).setCell ⟨g, i * 3, none⟩ (.int .i64 x.t)).setCell ⟨g, i * 3 + 1, none⟩ (.string (bst x.s))).setCell ⟨g, i * 3 + 2, none⟩ (.int .i64 x.f)).drew) := (upd3P w2 g i x).trans ((upd3P _ g i x).trans (Upd.of_below (Below.refl _ _).drew))
    have HF := hide (HFIN.out _ (HP2.out.grow (Below.refl _ _).drew) U6)
    have c3 := (U6.cell (p := ⟨b, 2, none⟩) (Nat.lt_of_lt_of_le hlt hz2) hbg).trans c2'
    have f3 := (U6.frozen (p := ⟨b, 2, none⟩) (Nat.lt_of_lt_of_le hlt hz2) hbg).trans f2'
    clear U6 HP HP2 x0 x1 x2 y0 y1 y2 x0' x1' x2' y0' y1' y2' fz HFIN HO c2' f2'
    generalize ((((((w2.setCell ⟨g, i * 3, none⟩ (.int .i64 x.t)).setCell ⟨g, i * 3 + 1, none⟩ (.string (bst x.s))).setCell ⟨g, i * 3 + 2, none⟩ (.int .i64 x.f)).setCell ⟨g, i * 3, none⟩ (.int .i64 x.t)).setCell ⟨g, i * 3 + 1, none⟩ (.string (bst x.s))).setCell ⟨g, i * 3 + 2, none⟩ (.int .i64 x.f)).drew = W3 at *
    go_wp2
    go_ret
    exact ⟨rfl, _, HF.out.1, HF.out.2, g, rfl, hg1⟩
  · have e0 : ¬ i * 3 = k * 3 := by omega
    have e1 : ¬ i * 3 = k * 3 + 1 := by omega
    have e2 : ¬ i * 3 = k * 3 + 2 := by omega
    have e3 : ¬ i * 3 + 1 = k * 3 := by omega
    have e4 : ¬ i * 3 + 1 = k * 3 + 1 := by omega
    have e5 : ¬ i * 3 + 1 = k * 3 + 2 := by omega
    have e6 : ¬ i * 3 + 2 = k * 3 := by omega
    have e7 : ¬ i * 3 + 2 = k * 3 + 1 := by omega
    have e8 : ¬ i * 3 + 2 = k * 3 + 2 := by omega
    have f0 : ¬ k * 3 = i * 3 := by omega
    have f1 : ¬ k * 3 = i * 3 + 1 := by omega
    have f2 : ¬ k * 3 = i * 3 + 2 := by omega
    have f3 : ¬ k * 3 + 1 = i * 3 := by omega
    have f4 : ¬ k * 3 + 1 = i * 3 + 1 := by omega
    have f5 : ¬ k * 3 + 1 = i * 3 + 2 := by omega
    have f6 : ¬ k * 3 + 2 = i * 3 := by omega
    have f7 : ¬ k * 3 + 2 = i * 3 + 1 := by omega
    have f8 : ¬ k * 3 + 2 = i * 3 + 2 := by omega
    have HP := hide (set3P HO.out HX.out y)
    have HP2 := hide (set3P HP.out (show (P.set i y)[k]? = some y by rw [List.getElem?_set_ne hik]; exact HY.out) x)
    go_wp2_with fail
    go_region
    have U6 : Upd (fun j => j = g) w2 (((((((w2.setCell ⟨g, i * 3, none⟩ (.int .i64 y.t)).setCell ⟨g, i * 3 + 1, none⟩ (.string (bst y.s))).setCell ⟨g, i * 3 + 2, none⟩ (.int .i64 y.f)).setCell ⟨g, k * 3, none⟩ (.int .i64 x.t)).setCell ⟨g, k * 3 + 1, none⟩ (.string (bst x.s))).setCell ⟨g, k * 3 + 2, none⟩ (.int .i64 x.f)).drew) := (upd3P w2 g i y).trans ((upd3P _ g k x).trans (Upd.of_below (Below.refl _ _).drew))
    have HF := hide (HFIN.out _ (HP2.out.grow (Below.refl _ _).drew) U6)
    have c3 := (U6.cell (p := ⟨b, 2, none⟩) (Nat.lt_of_lt_of_le hlt hz2) hbg).trans c2'
    have f3 := (U6.frozen (p := ⟨b, 2, none⟩) (Nat.lt_of_lt_of_le hlt hz2) hbg).trans f2'
    clear U6 HP HP2 x0 x1 x2 y0 y1 y2 x0' x1' x2' y0' y1' y2' fz HFIN HO c2' f2'
    generalize ((((((w2.setCell ⟨g, i * 3, none⟩ (.int .i64 y.t)).setCell ⟨g, i * 3 + 1, none⟩ (.string (bst y.s))).setCell ⟨g, i * 3 + 2, none⟩ (.int .i64 y.f)).setCell ⟨g, k * 3, none⟩ (.int .i64 x.t)).setCell ⟨g, k * 3 + 1, none⟩ (.string (bst x.s))).setCell ⟨g, k * 3 + 2, none⟩ (.int .i64 x.f)).drew = W3 at *
    go_wp2
    go_ret
    exact ⟨rfl, _, HF.out.1, HF.out.2, g, rfl, hg1⟩

end Go.Proofs.Ytegfbebhgihcaaa
