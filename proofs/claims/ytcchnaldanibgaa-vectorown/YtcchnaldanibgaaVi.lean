import Derived.Test.YtcchnaldanibgaaVh
namespace Go.Proofs.Ytcchnaldanibgaa
open Go.RowKit
set_option linter.unusedVariables false
set_option linter.unusedSimpArgs false

theorem num_any (n : Int) (w : World) : Calls Try.prog 15 #[.int .i64 n] w fun e w' => e = .returned (.int .i64 n) ∧ w' = w := by
  go_enter Try.func15, Try.ntmps15
  go_wp2
  go_ret
  exact ⟨rfl, rfl⟩
set_option maxRecDepth 100000 in
set_option maxHeartbeats 400000 in
theorem lo_any (X : List Int) (q n : Nat) (w : World) (hq : q < w.heap.size) (hX : ∀ i x, X[i]? = some x → w.cell? ⟨q, i, none⟩ = some (.int .u64 x)) (hl : X.length = n) (h0 : 0 < n) (h1 : n < 100) :
    Calls Try.prog 55 #[.slice (some ⟨q, 0, none⟩) n n] w fun e w' => ∃ g c, e = .returned (.slice (some ⟨g, 0, none⟩) n c) ∧ OwnD w.heap.size w' (.slice (some ⟨g, 0, none⟩) n c) (X.map (fun x => (0, x))) ∧ Below w.heap.size w w' := by
  have HX := hide hX
  have HL := hide hl
  clear hX hl
  go_enter Try.func55, Try.ntmps55
  go_wp2_with fail
  go_loopw [4, 3] (fun i v wr => ∃ (k : Nat), i = .int .i64 (k : Int) ∧ k ≤ n ∧ OwnD w.heap.size wr v ((X.take k).map (fun x => (0, x))) ∧ Below w.heap.size w wr) (fun i _ _ => n - (intOf i).toNat)
  case atStart => exact ⟨0, rfl, Nat.zero_le _, OwnD.nil _ _, Below.refl _ _⟩
  case round =>
    obtain ⟨k, rfl, hk, ho, hb⟩ := hrel
    have hsz := hb.size
    by_cases hlt : k < n
    · obtain ⟨x, hx⟩ : ∃ x, X[k]? = some x := ⟨_, List.getElem?_eq_getElem (by rw [HL.out]; exact hlt)⟩
      have e0 := (hb.cell (p := ⟨q, k, none⟩) hq).trans (HX.out k x hx)
      have ST : Hid ((X.take (k + 1)).map (fun x => ((0 : Int), x)) = (X.take k).map (fun x => (0, x)) ++ [(0, x)]) := by show _ = _; rw [List.take_add_one, hx]; simp
      have HLN : Hid (((X.take k).map (fun x => ((0 : Int), x))).length = k) := by show _ = _; rw [List.length_map, List.length_take, HL.out]; omega
      have HO := hide (ho.alloc (.cells #[.int .u64 0, .int .u64 x] 26))
      clear hx ho HX
      generalize (X.take k).map (fun x => ((0 : Int), x)) = Y at *
      go_wp2_with (at_builtin; go_must (refine app_draw _ rfl (.tmp 11) (.tmp 17) rfl w.heap.size Y _ rfl ⟨wr.heap.size, 0, none⟩ rfl 0 x (by simp) (by simp [Addr.add]) HO.out (by simp; omega) (by rw [HLN.out]; omega) ?_))
      intro v' w2 o2 _ g2
      have b2 : Below w.heap.size w w2 := HO.out.grown (hb.alloc hsz _) g2 (by simp; omega)
      have O2 := hide o2
      clear HO o2 g2
      go_wp2
      go_round
      case rel => exact ⟨k + 1, by go_num, by omega, by rw [ST.out]; exact O2.out, b2⟩
      case measure => simp [intOf]; omega
    · obtain rfl : k = n := by omega
      rw [List.take_of_length_le (by rw [HL.out]; exact Nat.le_refl _)] at ho
      obtain ⟨a, c, hv, h2, h3, h4, h5⟩ := ho.form
      rw [List.length_map, HL.out] at hv
      subst hv
      obtain ⟨g, rfl⟩ : ∃ g, a = some ⟨g, 0, none⟩ := by
        cases a with
        | none =>
          have := (h4 rfl).1
          have hll := HL.out
          rw [List.map_eq_nil_iff] at this
          subst this
          simp at hll
          omega
        | some z =>
          obtain ⟨g, rfl, _⟩ := h5 z rfl
          exact ⟨g, rfl⟩
      have HO := hide ho
      clear ho h2 h3 h4 h5
      go_wp2
      go_ret
      exact ⟨g, c, rfl, HO.out, hb⟩
theorem OwnD.vec {B : Nat} {w : World} {g n c : Nat} {D : List (Int × Int)} (h : OwnD B w (.slice (some ⟨g, 0, none⟩) n c) D) : Vec.ok w ⟨some ⟨g, 0, none⟩, c, D⟩ := by
  obtain ⟨a, c', hs, _⟩ := h.sl
  have hf := hs.form
  injection hf with h1 h2 h3
  subst h1 h2 h3
  exact hs
theorem OwnD.len {B : Nat} {w : World} {a : Option Addr} {n c : Nat} {D : List (Int × Int)} (h : OwnD B w (.slice a n c) D) : D.length = n := by
  obtain ⟨a, c', hs, _⟩ := h.form
  injection hs with h1 h2 h3
  exact h2.symm
def exA : List (Int × Int) := [(0, 0), (0, 0), (0, 0)]
def exB : List (Int × Int) := [(0, 4), (0, 0), (0, 0)]
theorem ex_mer : mer exA [exB] = exB := by decide
theorem ex_r {r : Int} {g1 g2 : Option Addr} {c1 c2 : Nat} (h : isFirst (fun i => ov (mer exA ([⟨1, ⟨g2, c2, exB⟩⟩].map (fun m : Voi => m.x.D))) (vD [⟨0, ⟨g1, c1, exA⟩⟩, ⟨1, ⟨g2, c2, exB⟩⟩] i) (vN [⟨0, ⟨g1, c1, exA⟩⟩, ⟨1, ⟨g2, c2, exB⟩⟩] i)) 2 r) : r = 0 := by
  have h0 : ov (mer exA ([⟨1, ⟨g2, c2, exB⟩⟩].map (fun m : Voi => m.x.D))) (vD [⟨0, ⟨g1, c1, exA⟩⟩, ⟨1, ⟨g2, c2, exB⟩⟩] 0) (vN [⟨0, ⟨g1, c1, exA⟩⟩, ⟨1, ⟨g2, c2, exB⟩⟩] 0) = true := by
    show ov (mer exA [exB]) exA 0 = true
    decide
  rcases h with ⟨j, h1, h2, h3, rfl⟩ | ⟨h1, _⟩
  · rcases Nat.eq_zero_or_pos j with h | h
    · subst h; rfl
    · have := h3 0 h
      simp only at this
      rw [h0] at this
      cases this
  · have := h1 0 (by omega)
    simp only at this
    rw [h0] at this
    cases this
theorem ex_s {s : Int} {g1 g2 : Option Addr} {c1 c2 : Nat} (h : isFirst (fun k => ov (vD [⟨0, ⟨g1, c1, exA⟩⟩, ⟨1, ⟨g2, c2, exB⟩⟩] k) (vD [⟨0, ⟨g1, c1, exA⟩⟩, ⟨1, ⟨g2, c2, exB⟩⟩] 0) (vN [⟨0, ⟨g1, c1, exA⟩⟩, ⟨1, ⟨g2, c2, exB⟩⟩] 0)) 2 s) : s = 1 := by
  have h0 : ov (vD [⟨0, ⟨g1, c1, exA⟩⟩, ⟨1, ⟨g2, c2, exB⟩⟩] 0) (vD [⟨0, ⟨g1, c1, exA⟩⟩, ⟨1, ⟨g2, c2, exB⟩⟩] 0) (vN [⟨0, ⟨g1, c1, exA⟩⟩, ⟨1, ⟨g2, c2, exB⟩⟩] 0) = false := by
    show ov exA exA 0 = false
    decide
  have h1 : ov (vD [⟨0, ⟨g1, c1, exA⟩⟩, ⟨1, ⟨g2, c2, exB⟩⟩] 1) (vD [⟨0, ⟨g1, c1, exA⟩⟩, ⟨1, ⟨g2, c2, exB⟩⟩] 0) (vN [⟨0, ⟨g1, c1, exA⟩⟩, ⟨1, ⟨g2, c2, exB⟩⟩] 0) = true := by
    show ov exB exA 0 = true
    decide
  rcases h with ⟨j, k1, k2, k3, rfl⟩ | ⟨k1, _⟩
  · simp only at k2
    match j, k1 with
    | 0, _ => rw [h0] at k2; cases k2
    | 1, _ => rfl
  · have := k1 1 (by omega)
    simp only at this
    rw [h1] at this
    cases this
theorem ex_ok (g1 g2 : Option Addr) (c1 c2 : Nat) : okV [⟨0, ⟨g1, c1, exA⟩⟩, ⟨1, ⟨g2, c2, exB⟩⟩] 3 := by
  intro m hm
  simp at hm
  rcases hm with rfl | rfl
  · exact ⟨by unfold mayv exA; simp, rfl⟩
  · exact ⟨by unfold mayv exB; simp, rfl⟩
set_option maxRecDepth 100000 in
set_option maxHeartbeats 1000000 in
theorem alive_true (w : World) : Calls Try.prog 32 #[] w fun e w' => e = .returned (.bool true) ∧ Below w.heap.size w w' := by
  go_enter Try.func32, Try.ntmps32
  go_wp2_with fail
  refine (lo_any [0, 0, 0] w.heap.size 3 _ (by simp) (fun i x hx => ?_) rfl (by omega) (by omega)).mono ?_
  · match i, hx with
    | 0, hx => simp at hx; subst hx; simp
    | 1, hx => simp at hx; subst hx; simp
    | 2, hx => simp at hx; subst hx; simp
    | i + 3, hx => simp at hx
  rintro e w1 ⟨g1, c1, rfl, o1, bb1⟩
  have b1 : Below w.heap.size w w1 := ((Below.refl _ _).alloc (Nat.le_refl _) _).trans (bb1.mono (by simp))
  have V1 := hide (show Vec.ok w1 ⟨some ⟨g1, 0, none⟩, c1, exA⟩ from o1.vec)
  have s1 := b1.size
  clear o1 bb1
  go_wp2_with fail
  refine (lo_any [4, 0, 0] w1.heap.size 3 _ (by simp) (fun i x hx => ?_) rfl (by omega) (by omega)).mono ?_
  · match i, hx with
    | 0, hx => simp at hx; subst hx; simp
    | 1, hx => simp at hx; subst hx; simp
    | 2, hx => simp at hx; subst hx; simp
    | i + 3, hx => simp at hx
  rintro e w2 ⟨g2, c2, rfl, o2, bb2⟩
  have b2 : Below w1.heap.size w1 w2 := ((Below.refl _ _).alloc (Nat.le_refl _) _).trans (bb2.mono (by simp))
  have V2 := hide (show Vec.ok w2 ⟨some ⟨g2, 0, none⟩, c2, exB⟩ from o2.vec)
  have V1' := hide (V1.out.bel b2 (Nat.le_refl _))
  have s2 := b2.size
  clear o2 bb2 V1
  have LW : Hid (LieW (w2.alloc (.cells #[.int .i64 0, .slice (some ⟨g1, 0, none⟩) 3 c1, .int .i64 1, .slice (some ⟨g2, 0, none⟩) 3 c2] 56)) w2.heap.size 0 [⟨0, ⟨some ⟨g1, 0, none⟩, c1, exA⟩⟩, ⟨1, ⟨some ⟨g2, 0, none⟩, c2, exB⟩⟩]) := fun i m hm => by
    match i, hm with
    | 0, hm => simp at hm; subst hm; exact ⟨by simp, by simp [exA], V1'.out.bel ((Below.refl _ _).alloc (Nat.le_refl _) _) (Nat.le_refl _)⟩
    | 1, hm => simp at hm; subst hm; exact ⟨by simp, by simp [exB], V2.out.bel ((Below.refl _ _).alloc (Nat.le_refl _) _) (Nat.le_refl _)⟩
    | i + 2, hm => simp at hm
  clear V1' V2
  have CA := hide (cons_any ⟨0, ⟨some ⟨g1, 0, none⟩, c1, exA⟩⟩ [⟨1, ⟨some ⟨g2, 0, none⟩, c2, exB⟩⟩] w2.heap.size 0 2 _ LW.out (by simp) (by simp) (by unfold maxLen; omega) (by simp))
  clear LW
  go_wp2_with fail
  refine CA.out.mono ?_
  rintro e w3 ⟨⟨_, r, s, rfl, hr, hs⟩ | ⟨hbad, _⟩, bb3⟩
  rotate_left
  · exact absurd (ex_ok _ _ _ _) hbad
  have hr := ex_r hr
  subst hr
  have hs : s = 1 := by
    rcases hs with ⟨h, _⟩ | ⟨j, hj, _, hs⟩
    · cases h
    · obtain rfl : j = 0 := by omega
      exact ex_s hs
  subst hs
  have b3 : Below w2.heap.size w2 w3 := ((Below.refl _ _).alloc (Nat.le_refl _) _).trans (bb3.mono (by simp))
  have b13 : Below w.heap.size w w3 := (b1.trans (b2.mono s1)).trans (b3.mono (by omega))
  clear CA bb3 b1 b2 b3 s1 s2
  have s3 := b13.size
  go_wp2_with fail
  refine (lo_any [5, 0, 0] w3.heap.size 3 _ (by simp) (fun i x hx => ?_) rfl (by omega) (by omega)).mono ?_
  · match i, hx with
    | 0, hx => simp at hx; subst hx; simp
    | 1, hx => simp at hx; subst hx; simp
    | 2, hx => simp at hx; subst hx; simp
    | i + 3, hx => simp at hx
  rintro e w4 ⟨g4, c4, rfl, o4, bb4⟩
  have b4 : Below w3.heap.size w3 w4 := ((Below.refl _ _).alloc (Nat.le_refl _) _).trans (bb4.mono (by simp))
  have V4 := hide (show Vec.ok w4 ⟨some ⟨g4, 0, none⟩, c4, [(0, 5), (0, 0), (0, 0)]⟩ from o4.vec)
  have s4 := b4.size
  clear o4 bb4
  go_wp2_with fail
  refine (lo_any [0, 0, 7] w4.heap.size 3 _ (by simp) (fun i x hx => ?_) rfl (by omega) (by omega)).mono ?_
  · match i, hx with
    | 0, hx => simp at hx; subst hx; simp
    | 1, hx => simp at hx; subst hx; simp
    | 2, hx => simp at hx; subst hx; simp
    | i + 3, hx => simp at hx
  rintro e w5 ⟨g5, c5, rfl, o5, bb5⟩
  have b5 : Below w4.heap.size w4 w5 := ((Below.refl _ _).alloc (Nat.le_refl _) _).trans (bb5.mono (by simp))
  have V5 := hide (show Vec.ok w5 ⟨some ⟨g5, 0, none⟩, c5, [(0, 0), (0, 0), (0, 7)]⟩ from o5.vec)
  have V4' := hide (V4.out.bel b5 (Nat.le_refl _))
  have s5 := b5.size
  clear o5 bb5 V4
  go_wp2_with fail
  refine (lo_any [3, 1, 0] w5.heap.size 3 _ (by simp) (fun i x hx => ?_) rfl (by omega) (by omega)).mono ?_
  · match i, hx with
    | 0, hx => simp at hx; subst hx; simp
    | 1, hx => simp at hx; subst hx; simp
    | 2, hx => simp at hx; subst hx; simp
    | i + 3, hx => simp at hx
  rintro e w6 ⟨g6, c6, rfl, o6, bb6⟩
  have b6 : Below w5.heap.size w5 w6 := ((Below.refl _ _).alloc (Nat.le_refl _) _).trans (bb6.mono (by simp))
  have V6 := hide (show Vec.ok w6 ⟨some ⟨g6, 0, none⟩, c6, [(0, 3), (0, 1), (0, 0)]⟩ from o6.vec)
  have V4 := hide (V4'.out.bel b6 (Nat.le_refl _))
  have V5' := hide (V5.out.bel b6 (Nat.le_refl _))
  have s6 := b6.size
  clear o6 bb6 V4' V5
  have b16 : Below w.heap.size w w6 := ((b13.trans (b4.mono s3)).trans (b5.mono (by omega))).trans (b6.mono (by omega))
  have LV : Hid (LieV (w6.alloc (.cells #[.slice (some ⟨g4, 0, none⟩) 3 c4, .slice (some ⟨g5, 0, none⟩) 3 c5, .slice (some ⟨g6, 0, none⟩) 3 c6] 23)) w6.heap.size 0 [⟨some ⟨g4, 0, none⟩, c4, [(0, 5), (0, 0), (0, 0)]⟩, ⟨some ⟨g5, 0, none⟩, c5, [(0, 0), (0, 0), (0, 7)]⟩, ⟨some ⟨g6, 0, none⟩, c6, [(0, 3), (0, 1), (0, 0)]⟩]) := fun i m hm => by
    match i, hm with
    | 0, hm => simp at hm; subst hm; exact ⟨by simp, V4.out.bel ((Below.refl _ _).alloc (Nat.le_refl _) _) (Nat.le_refl _)⟩
    | 1, hm => simp at hm; subst hm; exact ⟨by simp, V5'.out.bel ((Below.refl _ _).alloc (Nat.le_refl _) _) (Nat.le_refl _)⟩
    | 2, hm => simp at hm; subst hm; exact ⟨by simp, V6.out.bel ((Below.refl _ _).alloc (Nat.le_refl _) _) (Nat.le_refl _)⟩
    | i + 3, hm => simp at hm
  have MO := hide (merge_ok ⟨some ⟨g4, 0, none⟩, c4, [(0, 5), (0, 0), (0, 0)]⟩ [⟨some ⟨g5, 0, none⟩, c5, [(0, 0), (0, 0), (0, 7)]⟩, ⟨some ⟨g6, 0, none⟩, c6, [(0, 3), (0, 1), (0, 0)]⟩] w6.heap.size 0 3 _ LV.out (by simp) (by simp) (by unfold maxLen; omega) (by simp) (fun y hy => by simp at hy; rcases hy with rfl | rfl <;> rfl))
  clear LV V4 V5' V6 b13 b4 b5 b6 s3 s4 s5 s6
  have s6 := b16.size
  go_wp2_with fail
  refine MO.out.mono ?_
  rintro e w7 ⟨g7, rfl, o7, bb7⟩
  have b7 : Below w.heap.size w w7 := (b16.alloc s6 _).trans (bb7.mono (by simp; omega))
  have s7 := b7.size
  have hmer : mer [(0, 5), (0, 0), (0, 0)] ([⟨some ⟨g5, 0, none⟩, c5, [(0, 0), (0, 0), (0, 7)]⟩, ⟨some ⟨g6, 0, none⟩, c6, [(0, 3), (0, 1), (0, 0)]⟩].map (fun x : Vec => x.D)) = [(0, 5), (0, 1), (0, 7)] := by
    show mer [(0, 5), (0, 0), (0, 0)] [[(0, 0), (0, 0), (0, 7)], [(0, 3), (0, 1), (0, 0)]] = _
    decide
  rw [show _ = _ from hmer] at o7
  have V7 := hide (show Vec.ok w7 ⟨some ⟨g7, 0, none⟩, 3, [(0, 5), (0, 1), (0, 7)]⟩ from o7.vec)
  clear MO o7 bb7 hmer b16 s6
  go_wp2_with fail
  refine (num_any _ _).mono ?_
  rintro e w8 ⟨rfl, e1⟩
  have e1 := e1.symm
  subst e1
  go_wp2_with fail
  refine (num_any _ _).mono ?_
  rintro e w8 ⟨rfl, e1⟩
  have e1 := e1.symm
  subst e1
  go_wp2_with fail
  refine (lo_any [5, 1, 7] w7.heap.size 3 _ (by simp) (fun i x hx => ?_) rfl (by omega) (by omega)).mono ?_
  · match i, hx with
    | 0, hx => simp at hx; subst hx; simp
    | 1, hx => simp at hx; subst hx; simp
    | 2, hx => simp at hx; subst hx; simp
    | i + 3, hx => simp at hx
  rintro e w8 ⟨g8, c8, rfl, o8, bb8⟩
  have b8 : Below w7.heap.size w7 w8 := ((Below.refl _ _).alloc (Nat.le_refl _) _).trans (bb8.mono (by simp))
  have V8 := hide (show Vec.ok w8 ⟨some ⟨g8, 0, none⟩, c8, [(0, 5), (0, 1), (0, 7)]⟩ from o8.vec)
  have SV := hide (samevec_any [(0, 5), (0, 1), (0, 7)] [(0, 5), (0, 1), (0, 7)] (some ⟨g7, 0, none⟩) (some ⟨g8, 0, none⟩) 3 c8 w8 (V7.out.bel b8 (Nat.le_refl _)) V8.out)
  have b9 : Below w.heap.size w w8 := b7.trans (b8.mono s7)
  clear o8 bb8 V7 V8 b8
  go_wp2_with fail
  refine SV.out.mono ?_
  rintro e w9 ⟨rfl, k, rfl⟩
  go_wp2
  go_ret
  exact ⟨rfl, below_drewN b9 k⟩

end Go.Proofs.Ytcchnaldanibgaa
