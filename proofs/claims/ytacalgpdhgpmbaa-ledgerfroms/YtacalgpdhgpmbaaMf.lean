import Derived.Test.YtacalgpdhgpmbaaLx
namespace Go.Proofs.Ytacalgpdhgpmbaa
open Go.RowKit
open Classical
set_option linter.unusedVariables false

/-- The beginning of cells of the call's own, as a slice. -/
theorem own_prefix {B : Nat} {w : World} {g n c : Nat} {D E : List Cl} (h : OwnC B w (.slice (some ⟨g, 0, none⟩) n c) (D ++ E)) : SlC w (.slice (some ⟨g, 0, none⟩) D.length c) D (some ⟨g, 0, none⟩) c := by
  obtain ⟨a', c', e1, hle, hmx, _, hx⟩ := h.form
  injection e1 with e1 e2 e3
  subst e3
  obtain ⟨g', e4, _, hg⟩ := hx _ e1.symm
  cases e4
  refine ⟨rfl, by simp at hle; omega, hmx, (fun e => by cases e), fun x hx => ?_⟩
  cases hx
  refine .inr ⟨g, 0, rfl, hg, fun i d hd => ?_⟩
  have hi := (List.getElem?_eq_some_iff.1 hd).1
  have := h.cell i d (by rw [List.getElem?_append_left hi]; exact hd)
  rw [Nat.zero_add]
  exact this
theorem from_bad (D : List Cl) (a : Option Addr) (c : Nat) (hno : ¬ Ok D) (hw : ∀ p ∈ D, (Lit.int .i64 p.1).wf = true ∧ p.2.size ≤ maxLen) (w : World) (h : SlC w (.slice a D.length c) D a c) :
    Calls Try.prog 21 #[.slice a D.length c] w fun e w' => e = .returned (.tuple #[.pointer none, .int .i64 43]) ∧ Below w.heap.size w w' :=
  (from_any D a c w h hw).mono (by
    rintro e w' (⟨h1, _⟩ | ⟨_, h1, h2⟩)
    · exact absurd h1 hno
    · exact ⟨h1, h2⟩)
theorem reffrom_ok (D : List Cl) (a : Option Addr) (c : Nat) (hok : Ok D) (hw : ∀ p ∈ D, p.2.size ≤ maxLen) (w : World) (h : SlC w (.slice a D.length c) D a c) :
    Calls Try.prog 22 #[.slice a D.length c] w fun e w' => e = .returned (.int .i64 0) ∧ Below w.heap.size w w' :=
  (reffrom_any D a c w h hw).mono (by
    rintro e w' ⟨⟨_, h1⟩ | ⟨h1, _⟩, n, rfl⟩
    · exact ⟨h1, belN (Below.refl _ w) n⟩
    · exact absurd hok h1)
theorem reffrom_bad (D : List Cl) (a : Option Addr) (c : Nat) (hno : ¬ Ok D) (hw : ∀ p ∈ D, p.2.size ≤ maxLen) (w : World) (h : SlC w (.slice a D.length c) D a c) :
    Calls Try.prog 22 #[.slice a D.length c] w fun e w' => e = .returned (.int .i64 43) ∧ Below w.heap.size w w' :=
  (reffrom_any D a c w h hw).mono (by
    rintro e w' ⟨⟨h1, _⟩ | ⟨_, h1⟩, n, rfl⟩
    · exact absurd h1 hno
    · exact ⟨h1, belN (Below.refl _ w) n⟩)
set_option maxRecDepth 100000 in
set_option maxHeartbeats 2000000 in
theorem froms_walk (D : List Cl) (a : Option Addr) (c : Nat) (P : List Opn) (a1 : Option Addr) (c1 : Nat) (sl : Int) (w : World) (hD : SlC w (.slice a D.length c) D a c) (hDw : ∀ p ∈ D, (Lit.int .i64 p.1).wf = true ∧ p.2.size ≤ maxLen) (hDl : D.length * 24 ≤ 140737488351232) (hP : Ops w a1 P) (hf : ∀ p ∈ P, p.fits) (hl : P.length * 32 ≤ 140737488351232) (hsl : (Lit.int .i64 sl).wf = true) :
    Calls Try.prog 5 #[.slice a D.length c, .slice a1 P.length c1, .int .i64 sl] w fun e w' => e = .returned (.bool true) ∧ Below w.heap.size w w' := by
  have HD := hide hD
  have HDW := hide hDw
  have HP := hide hP
  have HF := hide hf
  have hmx := hD.max
  have hcp := hD.cap
  unfold maxLen at hmx
  clear hD hDw hP hf
  go_enter Try.func5, Try.ntmps5
  go_wp2_with (at_builtin; go_must (refine app_slC _ rfl (.tmp 14) (.tmp 15) rfl w.heap.size [] _ rfl a c D rfl HD.out (OwnC.nil _ _) (Nat.le_refl _) (by simp; omega) ?_))
  intro v2 w2 o2 hg2
  have b2 : Below w.heap.size w w2 := (Below.refl _ w).grown hg2 (Nat.le_refl _) (fun k hk => by cases hk)
  have hs2 := b2.size
  clear hg2
  go_wp2_with (at_builtin; go_must (refine app_cell _ rfl (.tmp 17) (.tmp 19) rfl w.heap.size D v2 rfl ⟨w2.heap.size, 0, none⟩ rfl (-7) ⟨#[109, 97, 114, 107]⟩ (At2.new w2 (-7, ⟨#[109, 97, 114, 107]⟩) _).1 (At2.new w2 (-7, ⟨#[109, 97, 114, 107]⟩) _).2 (o2.alloc _) (by simp; omega) (by omega) ?_))
  intro v3 w3 o3 hn3 hg3
  have b3 : Below w.heap.size w w3 := (b2.alloc hs2 _).grown hg3 (by simp; omega) (fun k hk => (World.ownsRow.lt (o2.alloc (.cells #[.int .i64 (-7), .string ⟨#[109, 97, 114, 107]⟩] 38)) k hk).1)
  clear hg3 o2
  obtain ⟨ag, c3, hv3, hle3, hmx3, hnil3, hx3⟩ := o3.form
  subst hv3
  cases ag with
  | none => have := (hnil3 rfl).1; simp at this
  | some z =>
  obtain ⟨g, rfl, hg1, hg2⟩ := hx3 z rfl
  clear hnil3 hx3 hn3 b2 hs2
  have hln : (D ++ [((-7 : Int), (⟨#[109, 97, 114, 107]⟩ : ByteArray))]).length = D.length + 1 := by simp
  rw [hln] at o3 hle3 ⊢
  unfold maxLen at hmx3
  have sp := hide (own_prefix o3)
  have o3h := hide o3
  have hs3 := b3.size
  clear o3 hln
  by_cases hok : Ok D
  · go_wp2_with fail
    refine (from_ok D _ _ hok w3 sp.out).mono ?_
    rintro e w4 ⟨rfl, l4⟩
    have b4 := l4.bel
    go_wp2_with fail
    refine (reffrom_ok D a c hok (fun p hp => (HDW.out p hp).2) w4 ((HD.out.later b3).later b4)).mono ?_
    rintro e w5 ⟨rfl, b5⟩
    have l5 := l4.on b5
    have b45 := l5.bel
    go_wp2_with fail
    refine (same_own D _ _ _ _ w5 (sp.out.later b45) ((HD.out.later b3).later b45)).mono ?_
    rintro e w6 ⟨rfl, bv⟩
    have l6 := l5.on bv
    have b6 := l6.bel
    clear bv b5 b45 l5 l4 b4
    have o6 := o3h.out.grow b6
    obtain ⟨m0, m1⟩ := o6.cell D.length (-7, ⟨#[109, 97, 114, 107]⟩) (by simp)
    dsimp only at m0 m1
    have m00 := hide m0
    go_wp2
    clear m0 m1
    go_loopw [11] (fun i wr => ∃ (k : Nat) (X : List Cl), i = .int .i64 (k : Int) ∧ k ≤ D.length + 1 ∧ X.length = D.length + 1 ∧ OwnC w.heap.size wr (.slice (some ⟨g, 0, none⟩) (D.length + 1) c3) X ∧ Upd (· = g) w6 wr) (fun i _ => D.length + 1 - (intOf i).toNat)
    case atStart => exact ⟨0, _, rfl, Nat.zero_le _, by simp, o6, Upd.refl _ _⟩
    case round =>
      obtain ⟨k, X, rfl, hk, hX, oX, uX⟩ := hrel
      by_cases hlt : k < D.length + 1
      · obtain ⟨dk, hgk⟩ : ∃ d, X[k]? = some d := ⟨_, List.getElem?_eq_getElem (show k < X.length by omega)⟩
        obtain ⟨e0, e1⟩ := oX.cell k _ hgk
        have fz0 := oX.free (k * 2)
        have fz1 := oX.free (k * 2 + 1)
        have oN := hide (oX.set k 3 ⟨#[115, 112, 111, 105, 108, 116]⟩)
        have hXl := hide (show (X.set k (3, ⟨#[115, 112, 111, 105, 108, 116]⟩)).length = D.length + 1 by simp [hX])
        have oXh := hide oX
        clear hgk hX oX
        go_wp2
        go_round
        case rel => exact ⟨k + 1, _, by go_num, by omega, hXl.out, oN.out, (uX.setCell (p := ⟨g, k * 2, none⟩) (.inl rfl) _).setCell (p := ⟨g, k * 2 + 1, none⟩) (.inl rfl) _⟩
        case measure => simp [intOf]; omega
      · obtain rfl : k = D.length + 1 := by omega
        clear oX hX hk hlt
        have uh := hide uX
        obtain ⟨m, lm, hB1, hB2, hB3⟩ := l6
        have hng : ∀ j, m = some j → ¬ j = g := fun j e e2 => map_ne_cells (lm.sm j e).2 (by rw [← e2] at m00; exact m00.out) rfl
        have lr := lm.upd uX (by omega) hng
        have hq : ∀ q, q < w.heap.size → ¬ q = g := fun q hq => by omega
        have up1 : ∀ W, Below wr.heap.size wr W → Led W w3.heap.size m D := fun W hW => lr.upd (S := fun _ => False) (Upd.of_below hW) id (fun _ _ => id)
        have slr : SlC wr (.slice a D.length c) D a c := ((HD.out.later b3).later b6).upd uX (fun x hx hne => by
          obtain ⟨q, o, e, hq', _⟩ := HD.out.place hne
          rw [hx] at e
          cases e
          dsimp only
          omega)
        have opr : Ops wr a1 P := fun i hi => by
          obtain ⟨q, o, e, d0, d1, d2⟩ := (HP.out.later b3).later b6 i hi
          obtain ⟨q', o', e', d0', _⟩ := HP.out i hi
          rw [e] at e'
          cases e'
          have hl := World.block_lt_of_cell? _ _ d0
          have hl' := World.block_lt_of_cell? _ _ d0'
          dsimp only at hl hl'
          exact ⟨q, o, e, (uX.cell (p := ⟨q, o + i * 3, none⟩) hl (by dsimp only; omega)).trans d0, (uX.cell (p := ⟨q, o + i * 3 + 1, none⟩) hl (by dsimp only; omega)).trans d1, (uX.cell (p := ⟨q, o + i * 3 + 2, none⟩) hl (by dsimp only; omega)).trans d2⟩
        have oprh := hide opr
        have slrh := hide slr
        have uph := hide up1
        have lrh := hide lr
        have hbW : Below w.heap.size w wr := (b3.trans (b6.mono hs3)).trans (uX.below (by have := b6.size; omega) (by rintro k rfl; exact hg1))
        have hbWh := hide hbW
        have hPq := hide (show ∀ z, a1 = some z → P ≠ [] → z.block < w.heap.size from fun z hz hne => by
          obtain ⟨q, o, e, d0, _⟩ := HP.out 0 (by cases P with | nil => exact absurd rfl hne | cons y r => simp)
          rw [hz] at e
          cases e
          exact World.block_lt_of_cell? _ _ d0)
        have hmh := hide (show ∀ j, m = some j → w.heap.size ≤ j from fun j e => by have := hB2 j e; omega)
        have hlr := lr.lt
        have hng2 := hs3
        clear opr slr up1 lr hbW uX lm hB1 hB2 hB3 hng hq
        go_wp2_with fail
        refine (asks_any w3.heap.size m D a c sl hsl wr lrh.out slrh.out).mono ?_
        rintro e w7 ⟨rfl, b7⟩
        go_wp2_with fail
        refine (copycells_any a c D w7 (slrh.out.later b7) (by omega)).mono ?_
        rintro e w8 ⟨v8, rfl, o8, bv⟩
        have b8 := b7.trans (bv.mono b7.size)
        obtain ⟨a8, q8, sl8, hz8⟩ := o8.sl
        have hv8 := sl8.form
        subst hv8
        have hs7 := b7.size
        go_wp2_with fail
        refine (plays_any w3.heap.size m D P a1 c1 a8 q8 sl hsl w8 (uph.out _ b8) sl8 (fun z hz _ => by have := (hz8 z hz).1; omega) (oprh.out.later b8) (fun z hz hne => by have := hPq.out z hz hne; omega) HF.out hl).mono ?_
        rintro e w9 ⟨a9, q9, rfl, T9, _, _⟩
        go_wp2
        go_ret
        exact ⟨rfl, hbWh.out.trans ((b8.mono hbWh.out.size).trans (T9.upd.below (Nat.le_trans hbWh.out.size b8.size) (fun k hk => by
          rcases hk with rfl | hk
          · exact hs3
          · exact hmh.out k hk)))⟩
  · go_wp2_with fail
    refine (from_bad D _ _ hok HDW.out w3 sp.out).mono ?_
    rintro e w4 ⟨rfl, b4⟩
    go_wp2_with fail
    refine (reffrom_bad D a c hok (fun p hp => (HDW.out p hp).2) w4 ((HD.out.later b3).later b4)).mono ?_
    rintro e w5 ⟨rfl, b5⟩
    have b45 := b4.trans (b5.mono b4.size)
    go_wp2_with fail
    refine (same_own D _ _ _ _ w5 (sp.out.later b45) ((HD.out.later b3).later b45)).mono ?_
    rintro e w6 ⟨rfl, bv⟩
    have b6 := b45.trans (bv.mono b45.size)
    clear bv b5 b45 b4
    have o6 := o3h.out.grow b6
    obtain ⟨m0, m1⟩ := o6.cell D.length (-7, ⟨#[109, 97, 114, 107]⟩) (by simp)
    dsimp only at m0 m1
    go_wp2
    clear m0 m1
    go_loopw [11] (fun i wr => ∃ (k : Nat) (X : List Cl), i = .int .i64 (k : Int) ∧ k ≤ D.length + 1 ∧ X.length = D.length + 1 ∧ OwnC w.heap.size wr (.slice (some ⟨g, 0, none⟩) (D.length + 1) c3) X ∧ Upd (· = g) w6 wr) (fun i _ => D.length + 1 - (intOf i).toNat)
    case atStart => exact ⟨0, _, rfl, Nat.zero_le _, by simp, o6, Upd.refl _ _⟩
    case round =>
      obtain ⟨k, X, rfl, hk, hX, oX, uX⟩ := hrel
      by_cases hlt : k < D.length + 1
      · obtain ⟨dk, hgk⟩ : ∃ d, X[k]? = some d := ⟨_, List.getElem?_eq_getElem (show k < X.length by omega)⟩
        obtain ⟨e0, e1⟩ := oX.cell k _ hgk
        have fz0 := oX.free (k * 2)
        have fz1 := oX.free (k * 2 + 1)
        have oN := hide (oX.set k 3 ⟨#[115, 112, 111, 105, 108, 116]⟩)
        have hXl := hide (show (X.set k (3, ⟨#[115, 112, 111, 105, 108, 116]⟩)).length = D.length + 1 by simp [hX])
        have oXh := hide oX
        clear hgk hX oX
        go_wp2
        go_round
        case rel => exact ⟨k + 1, _, by go_num, by omega, hXl.out, oN.out, (uX.setCell (p := ⟨g, k * 2, none⟩) (.inl rfl) _).setCell (p := ⟨g, k * 2 + 1, none⟩) (.inl rfl) _⟩
        case measure => simp [intOf]; omega
      · obtain rfl : k = D.length + 1 := by omega
        clear oX hX hk hlt
        have uh := hide uX
        have hbW : Below w.heap.size w wr := (b3.trans (b6.mono hs3)).trans (uX.below (by have := b6.size; omega) (by rintro k rfl; exact hg1))
        have hbWh := hide hbW
        clear hbW uX
        go_wp2_with fail
        refine (works_any _).mono ?_
        rintro e w9 ⟨rfl, b9⟩
        go_wp2
        go_ret
        exact ⟨rfl, hbWh.out.trans (b9.mono hbWh.out.size)⟩

end Go.Proofs.Ytacalgpdhgpmbaa
