import Derived.Test.YtilngncjbikkgaaGkl
import Derived.Lib.AppendStr
import Derived.Sort.OwnSorted
namespace Go.Proofs.Ytilngncjbikkgaa
open Go.RowKit
set_option linter.unusedVariables false
set_option linter.unusedSimpArgs false

set_option maxRecDepth 100000 in
theorem sameStamps_any (D : List (Int × Int × Int)) (a1 a2 : Option Addr) (c1 c2 B1 B2 : Nat) (w : World) (h1 : OwnS B1 w (.slice a1 D.length c1) D) (h2 : OwnS B2 w (.slice a2 D.length c2) D) :
    Calls Try.prog 24 #[.slice a1 D.length c1, .slice a2 D.length c2] w fun e w' => e = .returned (.bool true) ∧ ∃ k, w' = w.drewN k := by
  obtain ⟨b1, d1, e1, k1, m1, n1, x1⟩ := h1.form
  obtain ⟨b2, d2, e2, k2, m2, n2, x2⟩ := h2.form
  injection e1 with e1 _ e1'
  injection e2 with e2 _ e2'
  subst e1 e1' e2 e2'
  unfold maxLen at m1 m2
  by_cases hD : D = []
  · subst hD
    clear h1 h2
    go_enter Try.func24, Try.ntmps24
    go_wp2
    go_loopw [5] (fun i wr => i = .int .i64 0 ∧ wr = w) (fun _ _ => 0)
    case atStart => exact ⟨rfl, rfl⟩
    case round =>
      obtain ⟨rfl, rfl⟩ := hrel
      go_wp2
      go_ret
      exact ⟨rfl, 0, rfl⟩
  · obtain ⟨q1, rfl⟩ : ∃ q, a1 = some ⟨q, 0, none⟩ := by
      cases a1 with
      | none => exact absurd (n1 rfl).1 hD
      | some x =>
        obtain ⟨q, e, _⟩ := x1 x rfl
        exact ⟨q, by rw [e]⟩
    obtain ⟨q2, rfl⟩ : ∃ q, a2 = some ⟨q, 0, none⟩ := by
      cases a2 with
      | none => exact absurd (n2 rfl).1 hD
      | some x =>
        obtain ⟨q, e, _⟩ := x2 x rfl
        exact ⟨q, by rw [e]⟩
    have L1 := hide h1
    have L2 := hide h2
    clear h1 h2 x1 x2 n1 n2
    generalize hn : D.length = n at *
    have HN := hide hn
    clear hn
    go_enter Try.func24, Try.ntmps24
    go_wp2
    go_loopw [5] (fun i wr => ∃ (k j : Nat), i = .int .i64 (k : Int) ∧ k ≤ n ∧ wr = w.drewN j) (fun i _ => n - (intOf i).toNat)
    case atStart => exact ⟨0, 0, rfl, Nat.zero_le _, rfl⟩
    case round =>
      obtain ⟨k, j, rfl, hk, rfl⟩ := hrel
      by_cases hlt : k < n
      · obtain ⟨x, y, z, hd⟩ : ∃ x y z, D[k]? = some (x, y, z) := ⟨_, _, _, List.getElem?_eq_getElem (by have := HN.out; omega)⟩
        obtain ⟨e0, e1, e2⟩ := L1.out.cell k (x, y, z) hd
        obtain ⟨f0, f1, f2⟩ := L2.out.cell k (x, y, z) hd
        simp only at e0 e1 e2 f0 f1 f2
        clear L1 L2 hd
        go_wp2
        go_quiet (fail)
        go_wp2
        go_round
        case rel => exact ⟨k + 1, _, by go_num, by omega, rfl⟩
        case measure => simp [intOf]; omega
      · obtain rfl : k = n := by omega
        go_wp2
        go_ret
        exact ⟨rfl, _, rfl⟩
theorem tcs_set : ∀ (l : List (Int × Int × Int)) (k : Nat) (x : Int × Int × Int), tcs (l.set k x) = (((tcs l).set (k * 3) (.int .i64 x.1)).set (k * 3 + 1) (.int .u64 x.2.1)).set (k * 3 + 2) (.int .u64 x.2.2)
  | [], k, x => by simp [tcs]
  | d :: r, 0, x => by simp [tcs]
  | d :: r, k + 1, x => by
    have e : (k + 1) * 3 = k * 3 + 1 + 1 + 1 := by omega
    rw [e, show k * 3 + 1 + 1 + 1 + 1 = (k * 3 + 1) + 1 + 1 + 1 by omega, show k * 3 + 1 + 1 + 1 + 2 = (k * 3 + 2) + 1 + 1 + 1 by omega]
    simp only [List.set_cons_succ, tcs, tcs_set r k x]
theorem OwnS.set9 {B : Nat} {w : World} {g n c : Nat} {l : List (Int × Int × Int)} (h : OwnS B w (.slice (some ⟨g, 0, none⟩) n c) l) (k : Nat) (x y z : Int) :
    OwnS B (((w.setCell ⟨g, k * 3, none⟩ (.int .i64 x)).setCell ⟨g, k * 3 + 1, none⟩ (.int .u64 y)).setCell ⟨g, k * 3 + 2, none⟩ (.int .u64 z)) (.slice (some ⟨g, 0, none⟩) n c) (l.set k (x, y, z)) := by
  obtain ⟨a, c', e, _⟩ := h.form
  injection e with e1 e2 e3
  unfold OwnS at *
  rw [← e2] at h
  rw [tcs_set, List.length_set, ← e2]
  exact (((World.ownsRow.stored h (k * 3) _).1.stored (k * 3 + 1) _).1.stored (k * 3 + 2) _).1
theorem OwnS.free9 {B : Nat} {w : World} {g n c : Nat} {l : List (Int × Int × Int)} (h : OwnS B w (.slice (some ⟨g, 0, none⟩) n c) l) (j : Nat) : w.frozen? ⟨g, j, none⟩ = false := row_free h rfl j
section
variable {W0 w : World} {S T : Nat → Prop} {g g' : Nat} {k : Int} {n : Nat} {R : Int} {rd : Nat → Int} {md : Nat → Nat} {s : Nat → Int} {L : List (Int × Int × Int)}
theorem cg_drawn (h : CG w S g k n R rd md s L) (hb : L.length * 24 ≤ 140737488355328) :
    Calls Try.prog 23 #[.pointer (some ⟨g, 0, none⟩)] w fun e w' => ∃ v', e = .returned v' ∧ OwnS w.heap.size w' v' L ∧ Below w.heap.size w w' := by
  obtain ⟨h0, ⟨rfl, B, c, sg, cap, p, vd, h, hS⟩ | ⟨rfl, B, sg, cap, m, vd, h, hS⟩⟩ := h
  · exact drawn_all h.G.c1 h.D h.dn hb
  · exact drawn_all h.G.c1 h.D h.dn hb
theorem AB.upd9 (h : AB W0 w S T g g' k n R rd md s L) {U : Nat → Prop} {w' : World} (u : Upd U w w') (h1 : ∀ b, (S b ∨ T b) → ¬ U b) (h2 : ∀ b, U b → W0.heap.size ≤ b) : AB W0 w' S T g g' k n R rd md s L :=
  ⟨h.A.upd u (fun b hb => h1 b (.inl hb)), h.D.upd u (fun b hb => h1 b (.inr hb)), h.sep, h.lo, h.bel.trans (u.below h.bel.size h2), h.hk⟩
set_option maxRecDepth 100000 in
set_option maxHeartbeats 4000000 in
theorem acted4 (h : AB W0 w S T g g' k n R rd md s L) (K nd N : Int) (k0 : K ≠ 0) (k1 : K ≠ 1) (k2 : K ≠ 2) (k3 : K ≠ 3) (hb : (L.length + 3) * 24 ≤ 140737488355328) :
    Calls Try.prog 7 #[.pointer (some ⟨g, 0, none⟩), .pointer (some ⟨g', 0, none⟩), .agg #[.int .i64 K, .int .i64 nd, .int .u64 N]] w fun e w' => e = .returned (.bool true) ∧ Lft W0 g g' k n (L.length + 1) w' := by
  have e0 : (K == 0) = false := by simp [k0]
  have e1 : (K == 1) = false := by simp [k1]
  have e2 : (K == 2) = false := by simp [k2]
  have e3 : (K == 3) = false := by simp [k3]
  obtain ⟨W, hW⟩ : ∃ W, w.alloc (.cells #[.int .i64 K, .int .i64 nd, .int .u64 N] 34) = W := ⟨_, rfl⟩
  have bW : Below w.heap.size w W := by rw [← hW]; exact (Below.refl _ w).alloc (Nat.le_refl _) _
  have x0 : W.cell? ⟨w.heap.size, 0, none⟩ = some (.int .i64 K) := by rw [← hW]; simp
  have HW := hide (h.bel9 bW)
  have NS := hide (show ∀ b, (S b ∨ T b) → b < w.heap.size from fun b hb => hb.elim (h.A.1 b) (h.D.1 b))
  have zW := bW.size
  have hb2 := hide (show L.length * 24 ≤ 140737488355328 by omega)
  have hlen : L.length < 5864062014806 := by omega
  clear h bW
  go_enter Try.func7, Try.ntmps7
  go_wp2_with fail
  clear hW x0
  refine (cg_drawn HW.out.A hb2.out).mono ?_
  rintro e w1 ⟨v1, rfl, o1, b1⟩
  have H1 := hide (HW.out.bel9 b1)
  go_wp2_with fail
  refine (cg_drawn H1.out.A hb2.out).mono ?_
  rintro e w2 ⟨v2, rfl, o2, b2⟩
  have H2 := hide (H1.out.bel9 b2)
  have lt1 := hide o1.lt
  have lt2 := hide o2.lt
  have o1 := o1.upd (S := fun _ => False) (Upd.of_below b2) (fun _ _ => id)
  obtain ⟨hT0, BB, pg, mg, cp, cm, vt, vv, rg, hT⟩ := H2.out.D
  have c4 := rg.c4
  have ot := rg.T
  have lg := rg.gl.1
  have z1 := b1.size
  have z2 := b2.size
  obtain ⟨a1, q1, hv1, l1, m1, n1, y1⟩ := o1.form
  obtain ⟨a2, q2, hv2, l2, m2, n2, y2⟩ := o2.form
  obtain ⟨a3, q3, hv3, l3, m3, n3, y3⟩ := ot.form
  have tlt := ot.lt
  subst hv1 hv2 hv3
  have TT := hide (show ∀ b, (Value.slice a3 L.length q3).ownBlock = some b → b < w.heap.size from fun b hb => NS.out b (.inr (hT b (.inr (.inr (.inr (.inl hb)))))))
  have GT := hide (NS.out g' (.inr (hT g' (.inl rfl))))
  unfold maxLen at m1 m2 m3
  have O1 := hide o1
  have O2 := hide o2
  have O3 := hide ot
  clear o1 o2 ot rg hT hT0 y2 y3 n2 n3 tlt b1 b2
  go_wp2_with fail
  refine (sameStamps_any L a1 a3 q1 q3 _ _ w2 O1.out O3.out).mono ?_
  rintro e w3 ⟨rfl, kk3, hw3⟩
  have b3 : Below w2.heap.size w2 w3 := by rw [hw3]; exact below_drewN (Below.refl _ _) kk3
  have c4 := (b3.cell (p := ⟨g', 4, none⟩) lg).trans c4
  have lg := Nat.lt_of_lt_of_le lg b3.size
  have F3 : ∀ {B v l}, OwnS B w2 v l → OwnS B w3 v l := fun h => h.upd (S := fun _ => False) (Upd.of_below b3) (fun _ _ => id)
  have O1 := hide (F3 O1.out)
  have O2 := hide (F3 O2.out)
  have O3 := hide (F3 O3.out)
  have H3 := hide (H2.out.bel9 b3)
  have z3 := b3.size
  clear hw3 b3 F3 H2
  go_wp2_with fail
  refine (sameStamps_any L a2 a3 q2 q3 _ _ w3 O2.out O3.out).mono ?_
  rintro e w4 ⟨rfl, kk4, hw4⟩
  have b4 : Below w3.heap.size w3 w4 := by rw [hw4]; exact below_drewN (Below.refl _ _) kk4
  have c4 := (b4.cell (p := ⟨g', 4, none⟩) lg).trans c4
  have lg := Nat.lt_of_lt_of_le lg b4.size
  have F4 : ∀ {B v l}, OwnS B w3 v l → OwnS B w4 v l := fun h => h.upd (S := fun _ => False) (Upd.of_below b4) (fun _ _ => id)
  have O1 := hide (F4 O1.out)
  have O2 := hide (F4 O2.out)
  have O3 := hide (F4 O3.out)
  have H4 := hide (H3.out.bel9 b4)
  have z4 := b4.size
  clear hw4 b4 F4 H3
  go_wp2
  go_loopw [14] (fun i wr => ∃ (j : Nat) (X : List (Int × Int × Int)), i = .int .i64 (j : Int) ∧ j ≤ L.length ∧ X.length = L.length ∧ OwnS W.heap.size wr (.slice a1 L.length q1) X ∧ Upd (fun b => (Value.slice a1 L.length q1).ownBlock = some b) w4 wr) (fun i _ => L.length - (intOf i).toNat)
  case atStart => exact ⟨0, L, rfl, Nat.zero_le _, rfl, O1.out, Upd.refl _ _⟩
  case round =>
    obtain ⟨j, X, rfl, hj, hX, oX, uX⟩ := hrel
    by_cases hlt : j < L.length
    · obtain ⟨go, rfl⟩ : ∃ go, a1 = some ⟨go, 0, none⟩ := by
        cases a1 with
        | none =>
          have := (n1 rfl).1
          rw [this] at hlt
          simp at hlt
        | some z =>
          obtain ⟨q, e, _⟩ := y1 z rfl
          exact ⟨q, by rw [e]⟩
      obtain ⟨⟨dx, dy, dz⟩, hgk⟩ : ∃ d, X[j]? = some d := ⟨_, List.getElem?_eq_getElem (show j < X.length by omega)⟩
      obtain ⟨f0, f1, f2⟩ := oX.cell j _ hgk
      have fz0 := oX.free9 (j * 3)
      have fz1 := oX.free9 (j * 3 + 1)
      have fz2 := oX.free9 (j * 3 + 2)
      have oN := hide (oX.set9 j (-5) 0 0)
      have hXl := hide (show (X.set j (-5, 0, 0)).length = L.length by simp [hX])
      have uXh := hide uX
      dsimp only at f0 f1 f2
      clear hgk hX oX uX
      go_wp2
      go_round
      case rel => exact ⟨j + 1, _, by go_num, by omega, hXl.out, oN.out, ((uXh.out.setCell (p := ⟨go, j * 3, none⟩) (.inl rfl) _).setCell (p := ⟨go, j * 3 + 1, none⟩) (.inl rfl) _).setCell (p := ⟨go, j * 3 + 2, none⟩) (.inl rfl) _⟩
      case measure => simp [intOf]; omega
    · obtain rfl : j = L.length := by omega
      have nv1 := lt1.out
      have ng : ¬ (Value.slice a1 L.length q1).ownBlock = some g' := fun e => by have := (nv1 _ e).1; have := GT.out; omega
      have n3 : ∀ b, (Value.slice a3 L.length q3).ownBlock = some b → ¬ (Value.slice a1 L.length q1).ownBlock = some b := fun b hb e => by have := (nv1 _ e).1; have := TT.out b hb; omega
      have zr := uX.size
      have c4 := (uX.cell (p := ⟨g', 4, none⟩) lg ng).trans c4
      have lg := Nat.lt_of_lt_of_le lg zr
      have O3 := hide (O3.out.upd uX n3)
      have n2 : ∀ b, (Value.slice a2 L.length q2).ownBlock = some b → ¬ (Value.slice a1 L.length q1).ownBlock = some b := fun b hb e => by have := (nv1 _ e).2; have := (lt2.out b hb).1; omega
      have O2 := hide (O2.out.upd uX n2)
      have H5 := hide (H4.out.upd9 uX (fun b hb e => by have := (nv1 _ e).1; have := NS.out b hb; omega) (fun b e => by have := (nv1 _ e).1; have := HW.out.bel.size; omega))
      have hXL := hide hX
      have OX := hide oX
      have hB9 := hide (show W.heap.size ≤ (wr.alloc (.cells #[.int .i64 (-6), .int .u64 0, .int .u64 0, .int .i64 (-6), .int .u64 0, .int .u64 0, .int .i64 (-6), .int .u64 0, .int .u64 0] 70)).heap.size by simp; omega)
      have hbX := hide (show (X.length + 3) * 24 ≤ 140737488355328 by rw [hX]; exact hb)
      clear H4 uX oX hX O1
      go_wp2_with (at_builtin; go_must (refine app_stamps _ rfl (.tmp 102) (.tmp 106) rfl W.heap.size X _ rfl ⟨wr.heap.size, 0, none⟩ 3 3 rfl [(-6, 0, 0), (-6, 0, 0), (-6, 0, 0)] rfl (OX.out.alloc _) (fun j u hu => ?hn) hB9.out hbX.out ?_))
      case hn =>
        rw [Addr.add_lit, Nat.zero_add]
        exact (World.cell?_alloc_at _ _ _ _ rfl).trans (by simpa [tcs] using hu)
      intro v5 w5 o5 g5
      have u5 : Upd (fun b => (Value.slice a1 L.length q1).ownBlock = some b) wr w5 := ((Upd.refl _ wr).alloc _).trans ⟨g5.os, g5.tape, g5.output, g5.size, fun b hb hs => g5.block b hb (fun e => hs e.symm)⟩
      have c4 := (u5.cell (p := ⟨g', 4, none⟩) lg ng).trans c4
      have O3 := hide (O3.out.upd u5 n3)
      have O2 := hide (O2.out.upd u5 n2)
      have H6 := hide (H5.out.upd9 u5 (fun b hb e => by have := (nv1 _ e).1; have := NS.out b hb; omega) (fun b e => by have := (nv1 _ e).1; have := HW.out.bel.size; omega))
      obtain ⟨a5, q5, hv5, l5, m5, _, _⟩ := o5.form
      subst hv5
      have hl5 : (X ++ [((-6 : Int), (0 : Int), (0 : Int)), (-6, 0, 0), (-6, 0, 0)]).length = L.length + 3 := by rw [List.length_append, hXL.out]; rfl
      rw [hl5] at l5 ⊢
      unfold maxLen at m5
      clear o5 g5 u5 hl5 H5 OX hB9 hbX
      go_wp2_with fail
      refine (sameStamps_any L a2 a3 q2 q3 _ _ w5 O2.out O3.out).mono ?_
      rintro e w6 ⟨rfl, kk6, hw6⟩
      have b6 : Below w5.heap.size w5 w6 := by rw [hw6]; exact below_drewN (Below.refl _ _) kk6
      have H7 := hide (H6.out.bel9 b6)
      clear hw6 b6 H6 c4
      go_wp2
      go_ret
      exact ⟨rfl, _, _, _, _, _, _, _, H7.out, Nat.le_succ _⟩
end

end Go.Proofs.Ytilngncjbikkgaa
