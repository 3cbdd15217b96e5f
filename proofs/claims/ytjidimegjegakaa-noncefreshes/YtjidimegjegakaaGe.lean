import Derived.Test.YtjidimegjegakaaGa
import Derived.Test.YtjidimegjegakaaGYa
namespace Go.Proofs.Ytjidimegjegakaa
open Go.RowKit Go.Maps Go.ChangeShapes Go.WideShapes Go.ChangeAt
set_option linter.unusedVariables false
set_option linter.unusedSimpArgs false

theorem sl_litn {α : Type} {Y : Lay α} (K : Y.Ok) (w : World) (l : List α) (T : TypeId) (hm : l.length ≤ maxLen) : SlY Y (w.alloc (.cells (fl Y l).toArray T)) (some ⟨w.heap.size, 0, none⟩) l.length l.length l :=
  ⟨rfl, Nat.le_refl _, hm, (fun e => by cases e), fun y hy => by
    cases hy
    refine .inr ⟨w.heap.size, 0, rfl, by simp, fun i z hz j u hu => ?_⟩
    rw [Nat.zero_add, World.cell?_alloc_at _ _ _ _ rfl, List.getElem?_toArray, fl_get K l i z hz j (by have := (List.getElem?_eq_some_iff.1 hu).1; rw [K.len] at this; exact this)]
    exact hu⟩
def twoT : List St := [⟨77, 0, 0⟩, ⟨78, 0, 0⟩]
set_option maxRecDepth 100000 in
set_option maxHeartbeats 2000000 in
theorem freshes_walk (L : List St) (a : Option Addr) (c : Nat) (w : World) (h : SlY yT w a L.length c L) (hf : ∀ e ∈ L, e.fits) (hb24 : L.length * 24 ≤ 140737488351232) :
    Calls Try.prog 3 #[.slice a L.length c] w fun e w' => e = .returned (.bool true) ∧ Below w.heap.size w w' := by
  have hmx := h.max
  have hcp := h.cap
  unfold maxLen at hmx
  have H := hide h
  have HF := hide hf
  clear h hf
  go_enter Try.func3, Try.ntmps3
  go_wp2_with (at_builtin; go_must (refine appY kT _ rfl (.tmp 9) (.tmp 10) rfl w.heap.size [] _ rfl a L.length c rfl L H.out (OwnY.nil _ _ _) (Nat.le_refl _) (by unfold maxLen; simp; omega) (by show (0 + L.length) * 24 ≤ _; omega) ?_))
  intro v1 w1 o1 g1 _
  have b1 : Below w.heap.size w w1 := (Below.refl _ _).grown g1 (Nat.le_refl _) (fun k hk => by cases hk)
  have z1 := b1.size
  have SB := hide (sl_litn kT w1 twoT 27 (by unfold maxLen twoT; simp))
  have O1 := hide o1
  have B1 := hide b1
  clear o1 g1 b1
  go_wp2_with (at_builtin; go_must (refine appY kT _ rfl (.tmp 12) (.tmp 15) rfl w.heap.size L v1 rfl (some ⟨w1.heap.size, 0, none⟩) 2 2 rfl twoT SB.out (O1.out.alloc _) (by simp; omega) (by unfold maxLen; omega) (by show (_ + 2) * 24 ≤ _; omega) ?_))
  intro v2 w2 o2 g2 _
  have b2 := (O1.out.alloc (.cells (fl yT twoT).toArray 27)).grown (B1.out.alloc (by omega) _) g2 (by simp; omega)
  have z2 := b2.size
  obtain ⟨a2, c2, rfl, s2, hg⟩ := o2.sl kT
  have hlen : (L ++ twoT).length = L.length + 2 := by simp [twoT]
  obtain ⟨g, rfl⟩ : ∃ g, a2 = some ⟨g, 0, none⟩ := by
    cases a2 with
    | none => have := (s2.nil rfl).1; rw [hlen] at this; omega
    | some z => obtain ⟨g, rfl, _⟩ := hg z rfl; exact ⟨g, rfl⟩
  have F2 := hide (o2.front kT (D := L) rfl)
  have m2 := s2.max
  have p2 := s2.cap
  rw [hlen] at p2 ⊢
  unfold maxLen at m2
  have S2 := hide s2
  have B2 := hide b2
  have cf := fresh_any L (some ⟨g, 0, none⟩) c2 w2 F2.out HF.out hb24
  clear o2 g2 s2 hg hlen b2 O1 B1 SB
  obtain ⟨fb, fi, hX⟩ : ∃ fb fi, fr L = (fb, fi) := ⟨_, _, rfl⟩
  rw [hX] at cf
  have HX := hide hX
  clear hX
  dsimp only at cf
  go_wp2_with fail
  refine cf.mono ?_
  rintro e w3 ⟨rfl, b3⟩
  have z3 := b3.size
  have B3 := hide (B2.out.trans (b3.mono z2))
  have cr := reffresh_any L a c w3 (H.out.later B3.out) HF.out
  rw [HX.out] at cr
  dsimp only at cr
  have S3 := hide (S2.out.later b3)
  clear cf b3 S2 F2
  go_wp2_with fail
  refine cr.mono ?_
  rintro e w4 ⟨rfl, b4⟩
  have z4 := b4.size
  have B4 := hide (B3.out.trans (b4.mono (by omega)))
  have S4 := hide (S3.out.later b4)
  have H4 := hide (H.out.later B4.out)
  clear cr b4 S3 B3
  go_wp2
  go_loopw [8] (fun i wr => ∃ j qn : Nat, i = .int .i64 (j : Int) ∧ j ≤ L.length ∧ wr = w4.drewN qn) (fun i _ => L.length - (intOf i).toNat)
  case atStart => exact ⟨0, 0, rfl, Nat.zero_le _, rfl⟩
  case round =>
    obtain ⟨j, qn, rfl, hj, rfl⟩ := hrel
    by_cases hlt : j < L.length
    · have hg : L[j]? = some L[j] := List.getElem?_eq_getElem hlt
      obtain ⟨q, o, ea, _, d0, d1, d2⟩ := H4.out.st hg
      obtain ⟨q3, o3, ea3, _, f0, f1, f2⟩ := S4.out.st (j := j) (x := L[j]) (by rw [List.getElem?_append_left hlt]; exact hg)
      cases ea3
      subst ea
      rw [Nat.zero_add] at f0 f1 f2
      generalize L[j] = x at *
      obtain ⟨n, hh, ll⟩ := x
      dsimp only at d0 d1 d2 f0 f1 f2
      clear hg
      go_wp2
      go_quiet (fail)
      go_wp2
      go_round
      case rel => exact ⟨j + 1, qn + nq, by go_num, by omega, by simp⟩
      case measure => simp [intOf]; omega
    · obtain rfl : j = L.length := by omega
      obtain ⟨q3, o3, ea3, _, f0, _, _⟩ := S4.out.st (j := L.length) (x := ⟨77, 0, 0⟩) (by rw [List.getElem?_append_right (Nat.le_refl _), Nat.sub_self]; rfl)
      cases ea3
      obtain ⟨q4, o4, ea4, _, k0, _, _⟩ := S4.out.st (j := L.length + 1) (x := ⟨78, 0, 0⟩) (by rw [List.getElem?_append_right (by omega), Nat.add_sub_cancel_left]; rfl)
      cases ea4
      rw [Nat.zero_add] at f0 k0
      have hn0 : (0 : Int) ≤ (L.length : Int) := by omega
      have hw1 : IntKind.i64.wrap ((L.length : Int) + 1) = (L.length : Int) + 1 := by rw [IntKind.wrap_i64]; omega
      have hto : ((L.length : Int) + 1).toNat = L.length + 1 := by omega
      go_wp2
      go_ret
      exact ⟨rfl, belNN B4.out qn⟩

end Go.Proofs.Ytjidimegjegakaa
