import Derived.Test.YtgjmiemkjnnepaaHm
namespace Go.Proofs.Ytgjmiemkjnnepaa
open Go.RowKit Go.Maps
open Classical
set_option linter.unusedVariables false
set_option linter.unusedSimpArgs false

set_option maxRecDepth 100000 in
set_option maxHeartbeats 8000000 in
theorem alike_walk (m m' : Mg) (a1 a2 b1 b2 : Option Addr) (n1 n2 m1 m2 c1 c2 e1 e2 : Nat) (L L' : List En) (D D' : List (Int × Int)) (w : World) (h1 : SlY yE w a1 n1 c1 L) (h2 : SlY yD w a2 n2 c2 D) (h3 : SlY yE w b1 m1 e1 L') (h4 : SlY yD w b2 m2 e2 D') (k1 : n1 * 48 ≤ 140737488351232) (k2 : n2 * 16 ≤ 140737488351232) (k3 : m1 * 48 ≤ 140737488351232) (k4 : m2 * 16 ≤ 140737488351232) :
    Calls Try.prog 3 #[m.val (.slice a1 n1 c1) (.slice a2 n2 c2), m'.val (.slice b1 m1 e1) (.slice b2 m2 e2)] w fun e w' => e = .returned (.bool true) ∧ Below w.heap.size w w' := by
  have H1 := hide h1
  have H2 := hide h2
  have H3 := hide h3
  have H4 := hide h4
  clear h1 h2 h3 h4
  go_enter Try.func3, Try.ntmps3
  go_upto_region 2 with (first
    | (refine boxMk rfl (.tmp 0) rfl m _ _ rfl ?_; intro q1 w1 hq1 M1 b1' z1; subst hq1)
    | (refine boxMk rfl (.tmp 1) rfl m' _ _ rfl ?_; intro q2 w2 hq2 M2 b2' z2))
  have b2h : Below w1.heap.size w1 w2 := by first | exact b2' | (rw [z1]; exact b2')
  have hq3 : q2 = w.heap.size + 1 := by first | exact hq2 | exact hq2.trans z1
  subst hq3
  have z2' : w2.heap.size = w.heap.size + 2 := by first | exact z2 | omega
  have G0 := GM.new w2 43
  rw [z2'] at G0
  have ba : Below w2.heap.size w2 (w2.alloc (.cells #[.slice none 0 0, .slice none 0 0, .slice none 0 0, .slice none 0 0, .slice none 0 0, .slice none 0 0, .slice none 0 0, .slice none 0 0, .slice none 0 0, .slice none 0 0] 43)) := (Below.refl _ _).alloc (Nat.le_refl _) _
  have HB := hide ((b1'.trans (b2h.mono b1'.size)).trans (ba.mono (by omega)))
  have A := hide ((M1.bel b2h).bel ba)
  have B := hide (M2.bel ba)
  have HG := hide G0
  clear G0 M1 M2 b1' b2' b2h ba z1 z2 z2' hq2
  generalize w2.alloc _ = W0 at HB A B HG ⊢
  obtain ⟨T0, hT0⟩ : ∃ T0 : Array Value, T0 = #[m.val (.slice a1 n1 c1) (.slice a2 n2 c2), m'.val (.slice b1 m1 e1) (.slice b2 m2 e2), .pointer (some ⟨w.heap.size, 0, none⟩), .pointer (some ⟨w.heap.size + 1, 0, none⟩), .bool false, .pointer (some ⟨w.heap.size + 1 + 1, 0, none⟩), undef, undef, undef, undef, undef, undef, undef, undef, undef, undef, undef, undef, undef, undef, undef, undef, undef, undef, undef, undef, undef, undef, undef, undef, undef, undef, undef, undef, undef, undef, undef, undef, undef, undef, undef, undef, undef, undef, undef, undef, undef, undef, undef, undef, undef] := ⟨_, rfl⟩
  have h51 : 51 = T0.size := by rw [hT0]; rfl
  have t2 : T0[2]? = some (pt w.heap.size) := by rw [hT0]; rfl
  have t3 : T0[3]? = some (pt (w.heap.size + 1)) := by rw [hT0]; rfl
  have t5 : T0[5]? = some (pt (w.heap.size + 2)) := by rw [hT0]; rfl
  refine wp_cut (fun a' w' => RJ T0 w w.heap.size (w.heap.size + 1) (w.heap.size + 2) (w.heap.size + 2 + 1) m m' (.slice a1 n1 c1) (.slice a2 n2 c2) (.slice b1 m1 e1) (.slice b2 m2 e2) n1 n2 m1 m2 L L' D D' true a' w') ?rest ?first
  case first =>
    intro J K' hJ hK
    refine wp_region_any (by kernel_rfl) ?_
    have RIs : RI T0 w w.heap.size (w.heap.size + 1) (w.heap.size + 2) (w.heap.size + 2 + 1) m m' (.slice a1 n1 c1) (.slice a2 n2 c2) (.slice b1 m1 e1) (.slice b2 m2 e2) n1 n2 m1 m2 L L' D D' false false false false false false ⟨T0, []⟩ W0.drew := by
      have bd : Below W0.heap.size W0 W0.drew := (Below.refl _ _).drew
      exact ⟨rfl, rfl, fun _ _ => rfl, (fun e => by cases e), (fun e => by cases e), HB.out.drew, A.out.bel bd, B.out.bel bd, (fun e => by cases e), (fun e => by cases e), ⟨_, _, _, _, [], [], [], [], HG.out.bel bd, ⟨rfl, rfl, rfl, rfl⟩, (fun e => by cases e), (fun e => by cases e)⟩, (fun e => by cases e), (fun e => by cases e), (fun e => by cases e)⟩
    rw [← hT0]
    refine wpAny_inv (fun l a w' => ∃ x0 x1 x2 x3 x4 x5 x6 x7, l = #[x0, x1, x2, x3, x4, x5, x6, x7] ∧ ((x6 = false ∧ x7 = false ∧ RI T0 w w.heap.size (w.heap.size + 1) (w.heap.size + 2) (w.heap.size + 2 + 1) m m' (.slice a1 n1 c1) (.slice a2 n2 c2) (.slice b1 m1 e1) (.slice b2 m2 e2) n1 n2 m1 m2 L L' D D' x0 x1 x2 x3 x4 x5 a w') ∨ (x6 = true ∧ x0 = true ∧ x1 = true ∧ x2 = true ∧ x3 = true ∧ x4 = true ∧ x5 = true ∧ RJ T0 w w.heap.size (w.heap.size + 1) (w.heap.size + 2) (w.heap.size + 2 + 1) m m' (.slice a1 n1 c1) (.slice a2 n2 c2) (.slice b1 m1 e1) (.slice b2 m2 e2) n1 n2 m1 m2 L L' D D' x7 a w'))) ?_ ?_ _ _ _ _ (by decide +kernel) ⟨false, false, false, false, false, false, false, false, rfl, .inl ⟨rfl, rfl, RIs⟩⟩
    · rintro l a v ⟨x0, x1, x2, x3, x4, x5, x6, x7, rfl, hI⟩ hr
      refine hK _ _ (Met.intro (hJ _ _ ?_))
      have hall : x6 = true ∧ x7 = true := by
        revert hr
        clear hI
        revert x0 x1 x2 x3 x4 x5 x6 x7
        decide +kernel
      obtain ⟨rfl, rfl⟩ := hall
      rcases hI with ⟨e, _⟩ | ⟨_, _, _, _, _, _, _, h⟩
      · cases e
      · exact h
    · rintro l a v i ⟨x0, x1, x2, x3, x4, x5, x6, x7, rfl, hI⟩ hi
      have hc := all_of (p := fun j => match j with | 0 => !x0 | 1 => !x1 && x0 | 2 => !x2 | 3 => !x3 && (x2 && x1) | 4 => !x4 | 5 => !x5 | 6 => !x6 && (x0 && (x1 && (x3 && (x4 && x5)))) | 7 => !x7 && x6 | _ => false) hi (by
        clear hi hI
        revert x0 x1 x2 x3 x4 x5 x6 x7
        decide +kernel)
      clear hi
      have ev0 : ∀ {y0 y1 y2 y3 y4 y5}, RI T0 w w.heap.size (w.heap.size + 1) (w.heap.size + 2) (w.heap.size + 2 + 1) m m' (.slice a1 n1 c1) (.slice a2 n2 c2) (.slice b1 m1 e1) (.slice b2 m2 e2) n1 n2 m1 m2 L L' D D' y0 y1 y2 y3 y4 y5 a v → a.eval (.tmp 2) = pt w.heap.size ∧ a.eval (.tmp 3) = pt (w.heap.size + 1) ∧ a.eval (.tmp 5) = pt (w.heap.size + 2) := fun h => ⟨getD_of ((h.fr 2 (by omega)).trans t2), getD_of ((h.fr 3 (by omega)).trans t3), getD_of ((h.fr 5 (by omega)).trans t5)⟩
      match i, hc with
      | 0, hc =>
        obtain rfl : x0 = false := by simpa using hc
        rcases hI with ⟨rfl, rfl, h⟩ | ⟨_, e, _⟩
        · exact wpOp_of rfl rfl (wp_loadM (.tmp 2) rfl w.heap.size m _ _ (ev0 h).1 h.ba ⟨true, x1, x2, x3, x4, x5, false, false, rfl, .inl ⟨rfl, rfl, h.load0 h51⟩⟩)
        · cases e
      | 1, hc =>
        obtain ⟨rfl, rfl⟩ : x1 = false ∧ x0 = true := by simpa using hc
        rcases hI with ⟨rfl, rfl, h⟩ | ⟨_, _, e, _⟩
        · obtain rfl : x3 = false := by
            cases x3 with
            | false => rfl
            | true => exact absurd (h.ord rfl) (by decide)
          obtain ⟨v2, v3, v4, v5, Da, Db, La, Lb, G, K, _, _⟩ := h.g
          have K : Kept La Lb Da Db 0 := K
          have ev := getD_of (h.l0 rfl)
          refine wpOp_of rfl rfl (wp_givenM rfl (ev0 h).2.2 ev (given_msg m a1 a2 n1 n2 c1 c2 L D _ _ v2 v3 v4 v5 Da Db La Lb v G (H1.out.bel h.bl (Nat.le_refl _)) (H2.out.bel h.bl (Nat.le_refl _)) k1 k2 (by rw [K.ll]; decide) (len_map K.lm) (by rw [K.dl]; decide) (len_map K.dm) (fun z hz hne => ?_)) ?_)
          · have := H2.out.apart0 z hz hne
            exact ⟨by omega, fun e => by have := (G.o4.blk _ e).1; omega, fun e => by have := (G.o5.blk _ e).1; omega⟩
          · rintro e w' ⟨g, c, g', c', v2', v3', v4', v5', h5, k5, h3, k3', rfl, G', u, _, _, _, _⟩
            exact ⟨_, rfl, true, true, x2, false, x4, x5, false, false, rfl, .inl ⟨rfl, rfl, h.call1 h51 (by omega) (by omega) (by omega) (by omega) G K G' rfl rfl u ⟨g, c, g', c', rfl, rfl, by simp, by simp⟩⟩⟩
        · cases e
      | 2, hc =>
        obtain rfl : x2 = false := by simpa using hc
        rcases hI with ⟨rfl, rfl, h⟩ | ⟨_, _, _, e, _⟩
        · exact wpOp_of rfl rfl (wp_loadM (.tmp 3) rfl (w.heap.size + 1) m' _ _ (ev0 h).2.1 h.bb ⟨x0, x1, true, x3, x4, x5, false, false, rfl, .inl ⟨rfl, rfl, h.load2 h51⟩⟩)
        · cases e
      | 3, hc =>
        obtain ⟨rfl, rfl, rfl⟩ : x3 = false ∧ x2 = true ∧ x1 = true := by simpa using hc
        rcases hI with ⟨rfl, rfl, h⟩ | ⟨_, _, _, _, e, _⟩
        · obtain ⟨v2, v3, v4, v5, Da, Db, La, Lb, G, K, g1, _⟩ := h.g
          have K : Kept La Lb Da Db 1 := K
          have ev := getD_of (h.l2 rfl)
          refine wpOp_of rfl rfl (wp_givenM rfl (ev0 h).2.2 ev (given_msg m' b1 b2 m1 m2 e1 e2 L' D' _ _ v2 v3 v4 v5 Da Db La Lb v G (H3.out.bel h.bl (Nat.le_refl _)) (H4.out.bel h.bl (Nat.le_refl _)) k3 k4 (by rw [K.ll]; decide) (len_map K.lm) (by rw [K.dl]; decide) (len_map K.dm) (fun z hz hne => ?_)) ?_)
          · have := H4.out.apart0 z hz hne
            exact ⟨by omega, fun e => by have := (G.o4.blk _ e).1; omega, fun e => by have := (G.o5.blk _ e).1; omega⟩
          · rintro e w' ⟨g, c, g', c', v2', v3', v4', v5', h5, k5, h3, k3', rfl, G', u, _, _, _, _⟩
            exact ⟨_, rfl, x0, true, true, true, x4, x5, false, false, rfl, .inl ⟨rfl, rfl, h.call3 h51 (by omega) (by omega) (by omega) (by omega) G K (g1 rfl) G' rfl rfl u ⟨g, c, g', c', rfl, rfl, by simp, by simp⟩⟩⟩
        · cases e
      | 4, hc =>
        obtain rfl : x4 = false := by simpa using hc
        rcases hI with ⟨rfl, rfl, h⟩ | ⟨_, _, _, _, _, e, _⟩
        · exact wpOp_of rfl rfl (wp_allocM rfl (fun w' hM hb hz => ⟨x0, x1, x2, x3, true, x5, false, false, rfl, .inl ⟨rfl, rfl, h.alloc4 h51 h.bl.size hM hb⟩⟩))
        · cases e
      | 5, hc =>
        obtain rfl : x5 = false := by simpa using hc
        rcases hI with ⟨rfl, rfl, h⟩ | ⟨_, _, _, _, _, _, e, _⟩
        · exact wpOp_of rfl rfl (wp_allocM rfl (fun w' hM hb hz => ⟨x0, x1, x2, x3, x4, true, false, false, rfl, .inl ⟨rfl, rfl, h.alloc5 h51 h.bl.size hM hb⟩⟩))
        · cases e
      | 6, hc =>
        obtain ⟨rfl, rfl, rfl, rfl, rfl, rfl⟩ : x6 = false ∧ x0 = true ∧ x1 = true ∧ x3 = true ∧ x4 = true ∧ x5 = true := by simpa using hc
        rcases hI with ⟨_, rfl, h⟩ | ⟨e, _⟩
        · obtain rfl : x2 = true := h.ord2 rfl
          obtain ⟨v2, v3, v4, v5, Da, Db, La, Lb, G, K, g1, g3⟩ := h.g
          obtain ⟨ss, tt, f10, I1⟩ := g1 rfl
          obtain ⟨p6, f6, _, _, _, hp, M6⟩ := h.p6 rfl
          exact wpOp_of rfl rfl (wp_storeM (.tmp 6) (.tmp 10) rfl p6 zM m nS nS ss tt (getD_of f6) (getD_of f10) M6 I1.one.1 I1.one.2 (fun w' hM u hz => ⟨true, true, true, true, true, true, true, false, rfl, .inr ⟨rfl, rfl, rfl, rfl, rfl, rfl, rfl, h.store (Nat.le_refl _) f6 f10 hM u hp⟩⟩))
        · cases e
      | 7, hc =>
        obtain ⟨rfl, rfl⟩ : x7 = false ∧ x6 = true := by simpa using hc
        rcases hI with ⟨e, _⟩ | ⟨_, rfl, rfl, rfl, rfl, rfl, rfl, h⟩
        · cases e
        · obtain ⟨p7, ss', tt', f7, f12, o1, o2, M7, hk⟩ := h.store (Nat.le_refl _)
          exact wpOp_of rfl rfl (wp_storeM (.tmp 7) (.tmp 12) rfl p7 zM m' nS nS ss' tt' (getD_of f7) (getD_of f12) M7 o1 o2 (fun w' hM u hz => ⟨true, true, true, true, true, true, true, true, rfl, .inr ⟨rfl, rfl, rfl, rfl, rfl, rfl, rfl, hk w' hM u⟩⟩))
      | n + 8, hc => cases hc
  case rest =>
    rintro ⟨T, df⟩ w3 hR
    obtain ⟨v2, v3, v4, v5, Da, Db, La, Lb, p6, p7, ss, tt, ss', tt', G, K, I1, I2, f6, f7, _, _, _, _, _, _, _, _, M6, M7a⟩ := hR.g
    obtain ⟨u9, u10, u11, u12, hT⟩ := frame7 hR.sz h51 hR.fr f6 f7
    have hd : df = [] := hR.df
    subst hd
    dsimp only at hT
    subst hT
    have M7 : MBox w3 p7 m' ss' tt' := M7a
    clear M7a
    have A3 := hide hR.ba
    have B3 := hide hR.bb
    have HB3 := hide hR.bl
    have M6h := hide M6
    have M7h := hide M7
    have HG3 := hide G
    have HK := hide K
    have HI1 := hide I1
    have HI2 := hide I2
    clear hR f6 f7 M6 M7 G K I1 I2 HB A B HG h51 t2 t3 t5
    rw [hT0]
    simp only [List.setIfInBounds_toArray, List.set_cons_zero, List.set_cons_succ, pt]
    clear hT0 T0
    go_wp2_with (refine loadM rfl (.tmp 2) rfl w.heap.size m _ _ rfl A3.out ?_)
    refine (copymsg_any m a1 a2 n1 n2 c1 c2 L D w3 (H1.out.bel HB3.out (Nat.le_refl _)) (H2.out.bel HB3.out (Nat.le_refl _)) (by omega) (by omega)).mono ?_
    rintro e w4 ⟨y1, y2, rfl, o1, o2, b4⟩
    obtain ⟨al, cl, rfl, kl1, kl2, _⟩ := o1.form
    obtain ⟨am, cm, rfl, kd1, kd2, _⟩ := o2.form
    have z4 := b4.size
    have O1 := hide o1
    have O2 := hide o2
    have B4 := hide b4
    clear o1 o2 b4
    unfold maxLen at kl2 kd2
    go_upto_region 4 with (first
      | (refine allocMk rfl rfl ?_; intro q8 w5 hq8 N5 b5 z5)
      | (refine storeM rfl (.tmp 8) (.tmp 14) rfl q8 zM m nS nS _ _ rfl rfl N5 rfl rfl ?_; intro w6 e6 M8 u6 z6; clear e6))
    subst hq8
    have U6 : Hid (Upd (fun k => k = w4.heap.size) w3 w6) := ((Upd.of_below B4.out).trans (Upd.of_below (b5.mono (Nat.le_refl _)))).trans u6
    have b6 : Below w.heap.size w w6 := by
      have h1 := HB3.out.trans (B4.out.mono HB3.out.size)
      exact (h1.trans (b5.mono (by have := h1.size; omega))).trans (u6.below (by have := h1.size; omega) (fun k hk => by have := h1.size; omega))
    have B6 := hide b6
    have hq : w.heap.size + 2 < w4.heap.size := by have := HG3.out.lt; have := HG3.out.ltB; omega
    have A6 := hide (A3.out.upd U6.out (by have := A3.out.lt; omega))
    have C6 := hide (B3.out.upd U6.out (by have := B3.out.lt; omega))
    have M66 := hide (M6h.out.upd U6.out (by have := M6h.out.lt; omega))
    have M76 := hide (M7h.out.upd U6.out (by have := M7h.out.lt; omega))
    have G6 := hide (((HG3.out.bel B4.out).bel b5).msg N5 (by have := HG3.out.lt; have := HG3.out.ltB; omega) u6)
    have XF1 : Hid (∀ x, al = some x → ∃ g, x = ⟨g, 0, none⟩ ∧ True) := fun x hx => by
      obtain ⟨a', c', e, _, _, _, h⟩ := O1.out.form
      injection e with e _ _
      obtain ⟨g, hg, _⟩ := h x (e ▸ hx)
      exact ⟨g, hg, trivial⟩
    have X1 := hide ((O1.out.grow b5).upd1 u6 (fun g hg e => by have := (O1.out.blk _ hg).2; omega))
    have X2 := hide ((O2.out.grow b5).upd1 u6 (fun g hg e => by have := (O2.out.blk _ hg).2; omega))
    have XO2 : Hid (∀ k, (Value.slice am D.length cm).ownBlock = some k → k < w4.heap.size) := fun k hk => (O2.out.blk k hk).2
    have XO1 : Hid (∀ k, (Value.slice al L.length cl).ownBlock = some k → k < w4.heap.size) := fun k hk => (O1.out.blk k hk).2
    have PL : Hid (p6 < w4.heap.size ∧ p7 < w4.heap.size) := ⟨by have := M6h.out.lt; omega, by have := M7h.out.lt; omega⟩
    have N8 := hide M8
    have hz6 : w6.heap.size = w4.heap.size + 1 := by omega
    clear A3 B3 M6h M7h HG3 O1 O2 B4 HB3 U6 N5 b5 u6 M8 b6 z5 z6
    have c16 := N8.out.cell 16 _ rfl
    have f16 := N8.out.free 16
    simp only [Act.put, List.setIfInBounds_toArray, List.set_cons_zero, List.set_cons_succ]
    by_cases hL : L = []
    · subst hL
      go_upto_region 6 with fail
      have uA : Upd (fun k => k = w4.heap.size) w6 ((w6.setCell ⟨w4.heap.size, 16, none⟩ (.slice (some ⟨w4.heap.size + 1, 0, none⟩) 0 0)).alloc (.cells #[] 26)) := ((Upd.refl (fun k => k = w4.heap.size) w6).setCell (p := ⟨w4.heap.size, 16, none⟩) (.inl rfl) _).alloc _
      have NA := hide ((N8.out.log (.slice (some ⟨w4.heap.size + 1, 0, none⟩) 0 0)).bel ((Below.refl _ _).alloc (Nat.le_refl _) (.cells #[] 26)))
      clear c16 f16
      generalize (w6.setCell ⟨w4.heap.size, 16, none⟩ (.slice (some ⟨w4.heap.size + 1, 0, none⟩) 0 0)).alloc (.cells #[] 26) = wA at uA NA ⊢
      have EA : Hid (SlY yE wA (some ⟨w4.heap.size + 1, 0, none⟩) 0 0 []) := ⟨rfl, Nat.le_refl _, Nat.zero_le _, fun _ => ⟨rfl, rfl⟩, fun _ _ => .inl rfl⟩
      clear z4
      have EAn : ∀ x, (some (⟨w4.heap.size + 1, 0, none⟩ : Addr)) = some x → ([] : List En) ≠ [] → ¬ x.block = w4.heap.size := fun _ _ h => absurd rfl h
      by_cases hD : D = []
      · have XA := hide (X2.out.upd1 uA (fun g hg e => by have := XO2.out g hg; omega))
        have hzA : w4.heap.size < wA.heap.size := by have := uA.size; omega
        have c17 := NA.out.cell 17 _ rfl
        have f17 := NA.out.free 17
        subst hD
        go_upto_region 8 with fail
        have uB : Upd (fun k => k = w4.heap.size) w6 ((wA.setCell ⟨w4.heap.size, 17, none⟩ (.slice (some ⟨wA.heap.size, 0, none⟩) 0 0)).alloc (.cells #[] 31)) := (uA.setCell (p := ⟨w4.heap.size, 17, none⟩) (.inl rfl) _).alloc _
        have NB := hide ((NA.out.vec (.slice (some ⟨wA.heap.size, 0, none⟩) 0 0)).bel ((Below.refl _ _).alloc (Nat.le_refl _) (.cells #[] 31)))
        have EB := hide ((EA.out.upd ((Upd.refl (fun k => k = w4.heap.size) wA).setCell (p := ⟨w4.heap.size, 17, none⟩) (.inl rfl) (.slice (some ⟨wA.heap.size, 0, none⟩) 0 0)) EAn).later ((Below.refl _ _).alloc (Nat.le_refl _) (.cells #[] 31)))
        clear c17 f17
        generalize (wA.setCell ⟨w4.heap.size, 17, none⟩ (.slice (some ⟨wA.heap.size, 0, none⟩) 0 0)).alloc (.cells #[] 31) = wB at uB NB EB ⊢
        have DB : Hid (SlY yD wB (some ⟨wA.heap.size, 0, none⟩) 0 0 []) := ⟨rfl, Nat.le_refl _, Nat.zero_le _, fun _ => ⟨rfl, rfl⟩, fun _ _ => .inl rfl⟩
        have b8 : Below w.heap.size w wB := B6.out.trans (uB.below (by have := B6.out.size; omega) (fun k hk => by omega))
        have A8 := hide (A6.out.upd uB (by omega))
        have C8 := hide (C6.out.upd uB (by omega))
        have P68 := hide (M66.out.upd uB (by have := PL.out.1; omega))
        have P78 := hide (M76.out.upd uB (by have := PL.out.2; omega))
        have G8 := hide (G6.out.msg N8.out (by omega) uB)
        obtain ⟨g1, cc1, g1', cc1', rfl, rfl, mem1, mem1'⟩ := HI1.out.ex
        obtain ⟨g2, cc2, g2', cc2', rfl, rfl, mem2, mem2'⟩ := HI2.out.ex
        have xE := hide (G8.out.logAt mem1 H1.out.len)
        have xD := hide (G8.out.vecAt mem1' H2.out.len)
        have yE' := hide (G8.out.logAt mem2 H3.out.len)
        have yD' := hide (G8.out.vecAt mem2' H4.out.len)
        have iE := hide (H1.out.bel b8 (Nat.le_refl _))
        have iD := hide (H2.out.bel b8 (Nat.le_refl _))
        have jE := hide (H3.out.bel b8 (Nat.le_refl _))
        have jD := hide (H4.out.bel b8 (Nat.le_refl _))
        have IN := hide (fun (v : World) (hv : Below wB.heap.size wB v) => intactM_any _ _ _ _ _ _ _ _ _ _ v (G8.out.bel hv) HK.out.dm HK.out.lm)
        have b8h := hide b8
        clear uB b8 mem1 mem1' mem2 mem2' HI1 HI2 HK H1 H2 H3 H4 A6 C6 M66 M76 G6 N8 X1 X2 uA NA EA XA EAn
        refine region_qC8 (C := fun v => Below wB.heap.size wB v) (by kernel_rfl) (by kernel_rfl) (Below.refl _ _).drew ?_
        refine wq_load rfl (.tmp 6) rfl p6 m _ _ rfl (fun v hv => P68.out.bel hv) ?_
        simp only [Act.put, List.setIfInBounds_toArray, List.set_cons_zero, List.set_cons_succ]
        refine wq_load rfl (.tmp 7) rfl p7 m' _ _ rfl (fun v hv => P78.out.bel hv) ?_
        simp only [Act.put, List.setIfInBounds_toArray, List.set_cons_zero, List.set_cons_succ]
        refine wq_call (fid := 6) (args := #[m.val (.slice (some ⟨g1, 0, none⟩) n1 cc1) (.slice (some ⟨g1', 0, none⟩) n2 cc1'), m'.val (.slice (some ⟨g2, 0, none⟩) m1 cc2) (.slice (some ⟨g2', 0, none⟩) m2 cc2')]) rfl (fun v => by unfold execOp; simp only [resolve, invoke, Sem.run_bind, List.map_toArray, List.map_cons, List.map_nil]; rfl) (fun v hv => (alike_any _ _ _ _ _ _ _ _ _ _ _ _ _ _ _ _ _ _ v (xE.out.later hv) (xD.out.later hv) (yE'.out.later hv) (yD'.out.later hv)).mono (fun e v' h => ⟨h.1, hv.trans (h.2.mono hv.size)⟩)) ?_
        simp only [Act.put, List.setIfInBounds_toArray, List.set_cons_zero, List.set_cons_succ]
        refine wq_load rfl (.tmp 2) rfl w.heap.size m _ _ rfl (fun v hv => A8.out.bel hv) ?_
        simp only [Act.put, List.setIfInBounds_toArray, List.set_cons_zero, List.set_cons_succ]
        refine wq_load rfl (.tmp 3) rfl (w.heap.size + 1) m' _ _ rfl (fun v hv => C8.out.bel hv) ?_
        simp only [Act.put, List.setIfInBounds_toArray, List.set_cons_zero, List.set_cons_succ]
        refine wq_call (fid := 7) (args := #[m.val (.slice a1 n1 c1) (.slice a2 n2 c2), m'.val (.slice b1 m1 e1) (.slice b2 m2 e2)]) rfl (fun v => by unfold execOp; simp only [resolve, invoke, Sem.run_bind, List.map_toArray, List.map_cons, List.map_nil]; rfl) (fun v hv => (samemsg_any _ _ _ _ _ _ _ _ _ _ _ _ _ _ _ _ _ _ v (iE.out.later hv) (iD.out.later hv) (jE.out.later hv) (jD.out.later hv)).mono (fun e v' h => ⟨h.1, hv.trans (h.2.mono hv.size)⟩)) ?_
        simp only [Act.put, List.setIfInBounds_toArray, List.set_cons_zero, List.set_cons_succ]
        refine wq_eqlB rfl (.tmp 29) (.tmp 32) _ rfl (sameM m m' [] L' [] D') rfl rfl ?_
        simp only [Act.put, List.setIfInBounds_toArray, List.set_cons_zero, List.set_cons_succ]
        refine wq_val (u := .bool true) rfl (fun v => rfl) ?_
        simp only [Act.put, List.setIfInBounds_toArray, List.set_cons_zero, List.set_cons_succ]
        refine wq_load rfl (.tmp 7) rfl p7 m' _ _ rfl (fun v hv => P78.out.bel hv) ?_
        simp only [Act.put, List.setIfInBounds_toArray, List.set_cons_zero, List.set_cons_succ]
        refine wq_load rfl (.tmp 6) rfl p6 m _ _ rfl (fun v hv => P68.out.bel hv) ?_
        simp only [Act.put, List.setIfInBounds_toArray, List.set_cons_zero, List.set_cons_succ]
        refine wq_call (fid := 6) (args := #[m'.val (.slice (some ⟨g2, 0, none⟩) m1 cc2) (.slice (some ⟨g2', 0, none⟩) m2 cc2'), m.val (.slice (some ⟨g1, 0, none⟩) n1 cc1) (.slice (some ⟨g1', 0, none⟩) n2 cc1')]) rfl (fun v => by unfold execOp; simp only [resolve, invoke, Sem.run_bind, List.map_toArray, List.map_cons, List.map_nil]; rfl) (fun v hv => (alike_any _ _ _ _ _ _ _ _ _ _ _ _ _ _ _ _ _ _ v (yE'.out.later hv) (yD'.out.later hv) (xE.out.later hv) (xD.out.later hv)).mono (fun e v' h => ⟨h.1, hv.trans (h.2.mono hv.size)⟩)) ?_
        simp only [Act.put, List.setIfInBounds_toArray, List.set_cons_zero, List.set_cons_succ]
        refine wq_load rfl (.tmp 2) rfl w.heap.size m _ _ rfl (fun v hv => A8.out.bel hv) ?_
        simp only [Act.put, List.setIfInBounds_toArray, List.set_cons_zero, List.set_cons_succ]
        refine wq_load rfl (.tmp 3) rfl (w.heap.size + 1) m' _ _ rfl (fun v hv => C8.out.bel hv) ?_
        simp only [Act.put, List.setIfInBounds_toArray, List.set_cons_zero, List.set_cons_succ]
        refine wq_call (fid := 7) (args := #[m.val (.slice a1 n1 c1) (.slice a2 n2 c2), m'.val (.slice b1 m1 e1) (.slice b2 m2 e2)]) rfl (fun v => by unfold execOp; simp only [resolve, invoke, Sem.run_bind, List.map_toArray, List.map_cons, List.map_nil]; rfl) (fun v hv => (samemsg_any _ _ _ _ _ _ _ _ _ _ _ _ _ _ _ _ _ _ v (iE.out.later hv) (iD.out.later hv) (jE.out.later hv) (jD.out.later hv)).mono (fun e v' h => ⟨h.1, hv.trans (h.2.mono hv.size)⟩)) ?_
        simp only [Act.put, List.setIfInBounds_toArray, List.set_cons_zero, List.set_cons_succ]
        refine wq_eqlB rfl (.tmp 37) (.tmp 40) _ rfl (sameM m m' [] L' [] D') (congrArg Value.bool (sameM_comm m m' [] L' [] D')) rfl ?_
        simp only [Act.put, List.setIfInBounds_toArray, List.set_cons_zero, List.set_cons_succ]
        refine wq_val (u := .bool true) rfl (fun v => rfl) ?_
        simp only [Act.put, List.setIfInBounds_toArray, List.set_cons_zero, List.set_cons_succ]
        refine wq_val (u := .bool true) rfl (fun v => rfl) ?_
        simp only [Act.put, List.setIfInBounds_toArray, List.set_cons_zero, List.set_cons_succ]
        refine wq_load rfl (.tmp 6) rfl p6 m _ _ rfl (fun v hv => P68.out.bel hv) ?_
        simp only [Act.put, List.setIfInBounds_toArray, List.set_cons_zero, List.set_cons_succ]
        refine wq_load rfl (.tmp 8) rfl w4.heap.size m _ _ rfl (fun v hv => NB.out.bel hv) ?_
        simp only [Act.put, List.setIfInBounds_toArray, List.set_cons_zero, List.set_cons_succ]
        refine wq_call (fid := 6) (args := #[m.val (.slice (some ⟨g1, 0, none⟩) n1 cc1) (.slice (some ⟨g1', 0, none⟩) n2 cc1'), m.val (.slice (some ⟨w4.heap.size + 1, 0, none⟩) 0 0) (.slice (some ⟨wA.heap.size, 0, none⟩) 0 0)]) rfl (fun v => by unfold execOp; simp only [resolve, invoke, Sem.run_bind, List.map_toArray, List.map_cons, List.map_nil]; rfl) (fun v hv => (alike_any _ _ _ _ _ _ _ _ _ _ _ _ _ _ _ _ _ _ v (xE.out.later hv) (xD.out.later hv) (EB.out.later hv) (DB.out.later hv)).mono (fun e v' h => ⟨h.1.trans (by rw [sameM_self]), hv.trans (h.2.mono hv.size)⟩)) ?_
        simp only [Act.put, List.setIfInBounds_toArray, List.set_cons_zero, List.set_cons_succ]
        refine wq_val (u := .bool true) rfl (fun v => rfl) ?_
        simp only [Act.put, List.setIfInBounds_toArray, List.set_cons_zero, List.set_cons_succ]
        refine wq_val (u := .bool true) rfl (fun v => rfl) ?_
        simp only [Act.put, List.setIfInBounds_toArray, List.set_cons_zero, List.set_cons_succ]
        refine wq_call (fid := 8) (args := #[.pointer (some ⟨w.heap.size + 2, 0, none⟩)]) rfl (fun v => by unfold execOp; simp only [resolve, invoke, Sem.run_bind, List.map_toArray, List.map_cons, List.map_nil]; rfl) (fun v hv => (IN.out v hv).mono (fun e v' ⟨h, n, hn⟩ => ⟨h, by rw [hn]; exact belN hv n⟩)) ?_
        simp only [Act.put, List.setIfInBounds_toArray, List.set_cons_zero, List.set_cons_succ]
        refine wq_val (u := .bool true) rfl (fun v => rfl) ?_
        simp only [Act.put, List.setIfInBounds_toArray, List.set_cons_zero, List.set_cons_succ]
        refine wq_val (u := .bool true) rfl (fun v => rfl) ?_
        simp only [Act.put, List.setIfInBounds_toArray, List.set_cons_zero, List.set_cons_succ]
        refine wpQuiet_nil (fun v hv => ?_)
        go_wp2
        refine bodyPost_ret (results_tmp rfl _ _ _) rfl ⟨rfl, b8h.out.trans (hv.mono b8h.out.size)⟩
      · have XA := hide (X2.out.upd1 uA (fun g hg e => by have := XO2.out g hg; omega))
        have hzA : w4.heap.size < wA.heap.size := by have := uA.size; omega
        have c17 := NA.out.cell 17 _ rfl
        have f17 := NA.out.free 17
        have hl : ¬ (D.length : Int) = 0 := by
          have := List.length_pos_iff.2 hD
          omega
        go_upto_region 8 with fail
        clear c17 f17 hl
        obtain ⟨wB, hwB⟩ : ∃ wB, wB = wA := ⟨_, rfl⟩
        have uB : Upd (fun k => k = w4.heap.size) w6 wB := by rw [hwB]; exact uA
        have NB : Hid (MBox wB w4.heap.size m (.slice (some ⟨w4.heap.size + 1, 0, none⟩) 0 0) (.slice am D.length cm)) := by rw [hwB]; exact NA
        have EB : Hid (SlY yE wB (some ⟨w4.heap.size + 1, 0, none⟩) 0 0 []) := by rw [hwB]; exact EA
        have DB : Hid (SlY yD wB am D.length cm D) := by rw [hwB]; exact XA.out.sl' kD
        rw [← hwB]
        clear hwB
        have b8 : Below w.heap.size w wB := B6.out.trans (uB.below (by have := B6.out.size; omega) (fun k hk => by omega))
        have A8 := hide (A6.out.upd uB (by omega))
        have C8 := hide (C6.out.upd uB (by omega))
        have P68 := hide (M66.out.upd uB (by have := PL.out.1; omega))
        have P78 := hide (M76.out.upd uB (by have := PL.out.2; omega))
        have G8 := hide (G6.out.msg N8.out (by omega) uB)
        obtain ⟨g1, cc1, g1', cc1', rfl, rfl, mem1, mem1'⟩ := HI1.out.ex
        obtain ⟨g2, cc2, g2', cc2', rfl, rfl, mem2, mem2'⟩ := HI2.out.ex
        have xE := hide (G8.out.logAt mem1 H1.out.len)
        have xD := hide (G8.out.vecAt mem1' H2.out.len)
        have yE' := hide (G8.out.logAt mem2 H3.out.len)
        have yD' := hide (G8.out.vecAt mem2' H4.out.len)
        have iE := hide (H1.out.bel b8 (Nat.le_refl _))
        have iD := hide (H2.out.bel b8 (Nat.le_refl _))
        have jE := hide (H3.out.bel b8 (Nat.le_refl _))
        have jD := hide (H4.out.bel b8 (Nat.le_refl _))
        have IN := hide (fun (v : World) (hv : Below wB.heap.size wB v) => intactM_any _ _ _ _ _ _ _ _ _ _ v (G8.out.bel hv) HK.out.dm HK.out.lm)
        have b8h := hide b8
        clear uB b8 mem1 mem1' mem2 mem2' HI1 HI2 HK H1 H2 H3 H4 A6 C6 M66 M76 G6 N8 X1 X2 uA NA EA XA EAn
        refine region_qC8 (C := fun v => Below wB.heap.size wB v) (by kernel_rfl) (by kernel_rfl) (Below.refl _ _).drew ?_
        refine wq_load rfl (.tmp 6) rfl p6 m _ _ rfl (fun v hv => P68.out.bel hv) ?_
        simp only [Act.put, List.setIfInBounds_toArray, List.set_cons_zero, List.set_cons_succ]
        refine wq_load rfl (.tmp 7) rfl p7 m' _ _ rfl (fun v hv => P78.out.bel hv) ?_
        simp only [Act.put, List.setIfInBounds_toArray, List.set_cons_zero, List.set_cons_succ]
        refine wq_call (fid := 6) (args := #[m.val (.slice (some ⟨g1, 0, none⟩) n1 cc1) (.slice (some ⟨g1', 0, none⟩) n2 cc1'), m'.val (.slice (some ⟨g2, 0, none⟩) m1 cc2) (.slice (some ⟨g2', 0, none⟩) m2 cc2')]) rfl (fun v => by unfold execOp; simp only [resolve, invoke, Sem.run_bind, List.map_toArray, List.map_cons, List.map_nil]; rfl) (fun v hv => (alike_any _ _ _ _ _ _ _ _ _ _ _ _ _ _ _ _ _ _ v (xE.out.later hv) (xD.out.later hv) (yE'.out.later hv) (yD'.out.later hv)).mono (fun e v' h => ⟨h.1, hv.trans (h.2.mono hv.size)⟩)) ?_
        simp only [Act.put, List.setIfInBounds_toArray, List.set_cons_zero, List.set_cons_succ]
        refine wq_load rfl (.tmp 2) rfl w.heap.size m _ _ rfl (fun v hv => A8.out.bel hv) ?_
        simp only [Act.put, List.setIfInBounds_toArray, List.set_cons_zero, List.set_cons_succ]
        refine wq_load rfl (.tmp 3) rfl (w.heap.size + 1) m' _ _ rfl (fun v hv => C8.out.bel hv) ?_
        simp only [Act.put, List.setIfInBounds_toArray, List.set_cons_zero, List.set_cons_succ]
        refine wq_call (fid := 7) (args := #[m.val (.slice a1 n1 c1) (.slice a2 n2 c2), m'.val (.slice b1 m1 e1) (.slice b2 m2 e2)]) rfl (fun v => by unfold execOp; simp only [resolve, invoke, Sem.run_bind, List.map_toArray, List.map_cons, List.map_nil]; rfl) (fun v hv => (samemsg_any _ _ _ _ _ _ _ _ _ _ _ _ _ _ _ _ _ _ v (iE.out.later hv) (iD.out.later hv) (jE.out.later hv) (jD.out.later hv)).mono (fun e v' h => ⟨h.1, hv.trans (h.2.mono hv.size)⟩)) ?_
        simp only [Act.put, List.setIfInBounds_toArray, List.set_cons_zero, List.set_cons_succ]
        refine wq_eqlB rfl (.tmp 29) (.tmp 32) _ rfl (sameM m m' [] L' D D') rfl rfl ?_
        simp only [Act.put, List.setIfInBounds_toArray, List.set_cons_zero, List.set_cons_succ]
        refine wq_val (u := .bool true) rfl (fun v => rfl) ?_
        simp only [Act.put, List.setIfInBounds_toArray, List.set_cons_zero, List.set_cons_succ]
        refine wq_load rfl (.tmp 7) rfl p7 m' _ _ rfl (fun v hv => P78.out.bel hv) ?_
        simp only [Act.put, List.setIfInBounds_toArray, List.set_cons_zero, List.set_cons_succ]
        refine wq_load rfl (.tmp 6) rfl p6 m _ _ rfl (fun v hv => P68.out.bel hv) ?_
        simp only [Act.put, List.setIfInBounds_toArray, List.set_cons_zero, List.set_cons_succ]
        refine wq_call (fid := 6) (args := #[m'.val (.slice (some ⟨g2, 0, none⟩) m1 cc2) (.slice (some ⟨g2', 0, none⟩) m2 cc2'), m.val (.slice (some ⟨g1, 0, none⟩) n1 cc1) (.slice (some ⟨g1', 0, none⟩) n2 cc1')]) rfl (fun v => by unfold execOp; simp only [resolve, invoke, Sem.run_bind, List.map_toArray, List.map_cons, List.map_nil]; rfl) (fun v hv => (alike_any _ _ _ _ _ _ _ _ _ _ _ _ _ _ _ _ _ _ v (yE'.out.later hv) (yD'.out.later hv) (xE.out.later hv) (xD.out.later hv)).mono (fun e v' h => ⟨h.1, hv.trans (h.2.mono hv.size)⟩)) ?_
        simp only [Act.put, List.setIfInBounds_toArray, List.set_cons_zero, List.set_cons_succ]
        refine wq_load rfl (.tmp 2) rfl w.heap.size m _ _ rfl (fun v hv => A8.out.bel hv) ?_
        simp only [Act.put, List.setIfInBounds_toArray, List.set_cons_zero, List.set_cons_succ]
        refine wq_load rfl (.tmp 3) rfl (w.heap.size + 1) m' _ _ rfl (fun v hv => C8.out.bel hv) ?_
        simp only [Act.put, List.setIfInBounds_toArray, List.set_cons_zero, List.set_cons_succ]
        refine wq_call (fid := 7) (args := #[m.val (.slice a1 n1 c1) (.slice a2 n2 c2), m'.val (.slice b1 m1 e1) (.slice b2 m2 e2)]) rfl (fun v => by unfold execOp; simp only [resolve, invoke, Sem.run_bind, List.map_toArray, List.map_cons, List.map_nil]; rfl) (fun v hv => (samemsg_any _ _ _ _ _ _ _ _ _ _ _ _ _ _ _ _ _ _ v (iE.out.later hv) (iD.out.later hv) (jE.out.later hv) (jD.out.later hv)).mono (fun e v' h => ⟨h.1, hv.trans (h.2.mono hv.size)⟩)) ?_
        simp only [Act.put, List.setIfInBounds_toArray, List.set_cons_zero, List.set_cons_succ]
        refine wq_eqlB rfl (.tmp 37) (.tmp 40) _ rfl (sameM m m' [] L' D D') (congrArg Value.bool (sameM_comm m m' [] L' D D')) rfl ?_
        simp only [Act.put, List.setIfInBounds_toArray, List.set_cons_zero, List.set_cons_succ]
        refine wq_val (u := .bool true) rfl (fun v => rfl) ?_
        simp only [Act.put, List.setIfInBounds_toArray, List.set_cons_zero, List.set_cons_succ]
        refine wq_val (u := .bool true) rfl (fun v => rfl) ?_
        simp only [Act.put, List.setIfInBounds_toArray, List.set_cons_zero, List.set_cons_succ]
        refine wq_load rfl (.tmp 6) rfl p6 m _ _ rfl (fun v hv => P68.out.bel hv) ?_
        simp only [Act.put, List.setIfInBounds_toArray, List.set_cons_zero, List.set_cons_succ]
        refine wq_load rfl (.tmp 8) rfl w4.heap.size m _ _ rfl (fun v hv => NB.out.bel hv) ?_
        simp only [Act.put, List.setIfInBounds_toArray, List.set_cons_zero, List.set_cons_succ]
        refine wq_call (fid := 6) (args := #[m.val (.slice (some ⟨g1, 0, none⟩) n1 cc1) (.slice (some ⟨g1', 0, none⟩) n2 cc1'), m.val (.slice (some ⟨w4.heap.size + 1, 0, none⟩) 0 0) (.slice am D.length cm)]) rfl (fun v => by unfold execOp; simp only [resolve, invoke, Sem.run_bind, List.map_toArray, List.map_cons, List.map_nil]; rfl) (fun v hv => (alike_any _ _ _ _ _ _ _ _ _ _ _ _ _ _ _ _ _ _ v (xE.out.later hv) (xD.out.later hv) (EB.out.later hv) (DB.out.later hv)).mono (fun e v' h => ⟨h.1.trans (by rw [sameM_self]), hv.trans (h.2.mono hv.size)⟩)) ?_
        simp only [Act.put, List.setIfInBounds_toArray, List.set_cons_zero, List.set_cons_succ]
        refine wq_val (u := .bool true) rfl (fun v => rfl) ?_
        simp only [Act.put, List.setIfInBounds_toArray, List.set_cons_zero, List.set_cons_succ]
        refine wq_val (u := .bool true) rfl (fun v => rfl) ?_
        simp only [Act.put, List.setIfInBounds_toArray, List.set_cons_zero, List.set_cons_succ]
        refine wq_call (fid := 8) (args := #[.pointer (some ⟨w.heap.size + 2, 0, none⟩)]) rfl (fun v => by unfold execOp; simp only [resolve, invoke, Sem.run_bind, List.map_toArray, List.map_cons, List.map_nil]; rfl) (fun v hv => (IN.out v hv).mono (fun e v' ⟨h, n, hn⟩ => ⟨h, by rw [hn]; exact belN hv n⟩)) ?_
        simp only [Act.put, List.setIfInBounds_toArray, List.set_cons_zero, List.set_cons_succ]
        refine wq_val (u := .bool true) rfl (fun v => rfl) ?_
        simp only [Act.put, List.setIfInBounds_toArray, List.set_cons_zero, List.set_cons_succ]
        refine wq_val (u := .bool true) rfl (fun v => rfl) ?_
        simp only [Act.put, List.setIfInBounds_toArray, List.set_cons_zero, List.set_cons_succ]
        refine wpQuiet_nil (fun v hv => ?_)
        go_wp2
        refine bodyPost_ret (results_tmp rfl _ _ _) rfl ⟨rfl, b8h.out.trans (hv.mono b8h.out.size)⟩
    · have hl : ¬ (L.length : Int) = 0 := by
        have := List.length_pos_iff.2 hL
        omega
      go_upto_region 6 with fail
      clear c16 f16 hl
      obtain ⟨wA, hwA⟩ : ∃ wA, wA = w6 := ⟨_, rfl⟩
      have uA : Upd (fun k => k = w4.heap.size) w6 wA := by rw [hwA]; exact Upd.refl _ _
      have NA : Hid (MBox wA w4.heap.size m (.slice al L.length cl) (.slice am D.length cm)) := by rw [hwA]; exact N8
      have EA : Hid (SlY yE wA al L.length cl L) := by rw [hwA]; exact X1.out.sl' kE
      rw [← hwA]
      clear hwA
      have EAn : ∀ x, al = some x → L ≠ [] → ¬ x.block = w4.heap.size := fun x hx _ e => by
        have := XO1.out x.block (by rw [hx]; obtain ⟨g, rfl, _⟩ := XF1.out x hx; rfl)
        omega
      by_cases hD : D = []
      · have XA := hide (X2.out.upd1 uA (fun g hg e => by have := XO2.out g hg; omega))
        have hzA : w4.heap.size < wA.heap.size := by have := uA.size; omega
        have c17 := NA.out.cell 17 _ rfl
        have f17 := NA.out.free 17
        subst hD
        go_upto_region 8 with fail
        have uB : Upd (fun k => k = w4.heap.size) w6 ((wA.setCell ⟨w4.heap.size, 17, none⟩ (.slice (some ⟨wA.heap.size, 0, none⟩) 0 0)).alloc (.cells #[] 31)) := (uA.setCell (p := ⟨w4.heap.size, 17, none⟩) (.inl rfl) _).alloc _
        have NB := hide ((NA.out.vec (.slice (some ⟨wA.heap.size, 0, none⟩) 0 0)).bel ((Below.refl _ _).alloc (Nat.le_refl _) (.cells #[] 31)))
        have EB := hide ((EA.out.upd ((Upd.refl (fun k => k = w4.heap.size) wA).setCell (p := ⟨w4.heap.size, 17, none⟩) (.inl rfl) (.slice (some ⟨wA.heap.size, 0, none⟩) 0 0)) EAn).later ((Below.refl _ _).alloc (Nat.le_refl _) (.cells #[] 31)))
        clear c17 f17
        generalize (wA.setCell ⟨w4.heap.size, 17, none⟩ (.slice (some ⟨wA.heap.size, 0, none⟩) 0 0)).alloc (.cells #[] 31) = wB at uB NB EB ⊢
        have DB : Hid (SlY yD wB (some ⟨wA.heap.size, 0, none⟩) 0 0 []) := ⟨rfl, Nat.le_refl _, Nat.zero_le _, fun _ => ⟨rfl, rfl⟩, fun _ _ => .inl rfl⟩
        have b8 : Below w.heap.size w wB := B6.out.trans (uB.below (by have := B6.out.size; omega) (fun k hk => by omega))
        have A8 := hide (A6.out.upd uB (by omega))
        have C8 := hide (C6.out.upd uB (by omega))
        have P68 := hide (M66.out.upd uB (by have := PL.out.1; omega))
        have P78 := hide (M76.out.upd uB (by have := PL.out.2; omega))
        have G8 := hide (G6.out.msg N8.out (by omega) uB)
        obtain ⟨g1, cc1, g1', cc1', rfl, rfl, mem1, mem1'⟩ := HI1.out.ex
        obtain ⟨g2, cc2, g2', cc2', rfl, rfl, mem2, mem2'⟩ := HI2.out.ex
        have xE := hide (G8.out.logAt mem1 H1.out.len)
        have xD := hide (G8.out.vecAt mem1' H2.out.len)
        have yE' := hide (G8.out.logAt mem2 H3.out.len)
        have yD' := hide (G8.out.vecAt mem2' H4.out.len)
        have iE := hide (H1.out.bel b8 (Nat.le_refl _))
        have iD := hide (H2.out.bel b8 (Nat.le_refl _))
        have jE := hide (H3.out.bel b8 (Nat.le_refl _))
        have jD := hide (H4.out.bel b8 (Nat.le_refl _))
        have IN := hide (fun (v : World) (hv : Below wB.heap.size wB v) => intactM_any _ _ _ _ _ _ _ _ _ _ v (G8.out.bel hv) HK.out.dm HK.out.lm)
        have b8h := hide b8
        clear uB b8 mem1 mem1' mem2 mem2' HI1 HI2 HK H1 H2 H3 H4 A6 C6 M66 M76 G6 N8 X1 X2 uA NA EA XA EAn
        refine region_qC8 (C := fun v => Below wB.heap.size wB v) (by kernel_rfl) (by kernel_rfl) (Below.refl _ _).drew ?_
        refine wq_load rfl (.tmp 6) rfl p6 m _ _ rfl (fun v hv => P68.out.bel hv) ?_
        simp only [Act.put, List.setIfInBounds_toArray, List.set_cons_zero, List.set_cons_succ]
        refine wq_load rfl (.tmp 7) rfl p7 m' _ _ rfl (fun v hv => P78.out.bel hv) ?_
        simp only [Act.put, List.setIfInBounds_toArray, List.set_cons_zero, List.set_cons_succ]
        refine wq_call (fid := 6) (args := #[m.val (.slice (some ⟨g1, 0, none⟩) n1 cc1) (.slice (some ⟨g1', 0, none⟩) n2 cc1'), m'.val (.slice (some ⟨g2, 0, none⟩) m1 cc2) (.slice (some ⟨g2', 0, none⟩) m2 cc2')]) rfl (fun v => by unfold execOp; simp only [resolve, invoke, Sem.run_bind, List.map_toArray, List.map_cons, List.map_nil]; rfl) (fun v hv => (alike_any _ _ _ _ _ _ _ _ _ _ _ _ _ _ _ _ _ _ v (xE.out.later hv) (xD.out.later hv) (yE'.out.later hv) (yD'.out.later hv)).mono (fun e v' h => ⟨h.1, hv.trans (h.2.mono hv.size)⟩)) ?_
        simp only [Act.put, List.setIfInBounds_toArray, List.set_cons_zero, List.set_cons_succ]
        refine wq_load rfl (.tmp 2) rfl w.heap.size m _ _ rfl (fun v hv => A8.out.bel hv) ?_
        simp only [Act.put, List.setIfInBounds_toArray, List.set_cons_zero, List.set_cons_succ]
        refine wq_load rfl (.tmp 3) rfl (w.heap.size + 1) m' _ _ rfl (fun v hv => C8.out.bel hv) ?_
        simp only [Act.put, List.setIfInBounds_toArray, List.set_cons_zero, List.set_cons_succ]
        refine wq_call (fid := 7) (args := #[m.val (.slice a1 n1 c1) (.slice a2 n2 c2), m'.val (.slice b1 m1 e1) (.slice b2 m2 e2)]) rfl (fun v => by unfold execOp; simp only [resolve, invoke, Sem.run_bind, List.map_toArray, List.map_cons, List.map_nil]; rfl) (fun v hv => (samemsg_any _ _ _ _ _ _ _ _ _ _ _ _ _ _ _ _ _ _ v (iE.out.later hv) (iD.out.later hv) (jE.out.later hv) (jD.out.later hv)).mono (fun e v' h => ⟨h.1, hv.trans (h.2.mono hv.size)⟩)) ?_
        simp only [Act.put, List.setIfInBounds_toArray, List.set_cons_zero, List.set_cons_succ]
        refine wq_eqlB rfl (.tmp 29) (.tmp 32) _ rfl (sameM m m' L L' [] D') rfl rfl ?_
        simp only [Act.put, List.setIfInBounds_toArray, List.set_cons_zero, List.set_cons_succ]
        refine wq_val (u := .bool true) rfl (fun v => rfl) ?_
        simp only [Act.put, List.setIfInBounds_toArray, List.set_cons_zero, List.set_cons_succ]
        refine wq_load rfl (.tmp 7) rfl p7 m' _ _ rfl (fun v hv => P78.out.bel hv) ?_
        simp only [Act.put, List.setIfInBounds_toArray, List.set_cons_zero, List.set_cons_succ]
        refine wq_load rfl (.tmp 6) rfl p6 m _ _ rfl (fun v hv => P68.out.bel hv) ?_
        simp only [Act.put, List.setIfInBounds_toArray, List.set_cons_zero, List.set_cons_succ]
        refine wq_call (fid := 6) (args := #[m'.val (.slice (some ⟨g2, 0, none⟩) m1 cc2) (.slice (some ⟨g2', 0, none⟩) m2 cc2'), m.val (.slice (some ⟨g1, 0, none⟩) n1 cc1) (.slice (some ⟨g1', 0, none⟩) n2 cc1')]) rfl (fun v => by unfold execOp; simp only [resolve, invoke, Sem.run_bind, List.map_toArray, List.map_cons, List.map_nil]; rfl) (fun v hv => (alike_any _ _ _ _ _ _ _ _ _ _ _ _ _ _ _ _ _ _ v (yE'.out.later hv) (yD'.out.later hv) (xE.out.later hv) (xD.out.later hv)).mono (fun e v' h => ⟨h.1, hv.trans (h.2.mono hv.size)⟩)) ?_
        simp only [Act.put, List.setIfInBounds_toArray, List.set_cons_zero, List.set_cons_succ]
        refine wq_load rfl (.tmp 2) rfl w.heap.size m _ _ rfl (fun v hv => A8.out.bel hv) ?_
        simp only [Act.put, List.setIfInBounds_toArray, List.set_cons_zero, List.set_cons_succ]
        refine wq_load rfl (.tmp 3) rfl (w.heap.size + 1) m' _ _ rfl (fun v hv => C8.out.bel hv) ?_
        simp only [Act.put, List.setIfInBounds_toArray, List.set_cons_zero, List.set_cons_succ]
        refine wq_call (fid := 7) (args := #[m.val (.slice a1 n1 c1) (.slice a2 n2 c2), m'.val (.slice b1 m1 e1) (.slice b2 m2 e2)]) rfl (fun v => by unfold execOp; simp only [resolve, invoke, Sem.run_bind, List.map_toArray, List.map_cons, List.map_nil]; rfl) (fun v hv => (samemsg_any _ _ _ _ _ _ _ _ _ _ _ _ _ _ _ _ _ _ v (iE.out.later hv) (iD.out.later hv) (jE.out.later hv) (jD.out.later hv)).mono (fun e v' h => ⟨h.1, hv.trans (h.2.mono hv.size)⟩)) ?_
        simp only [Act.put, List.setIfInBounds_toArray, List.set_cons_zero, List.set_cons_succ]
        refine wq_eqlB rfl (.tmp 37) (.tmp 40) _ rfl (sameM m m' L L' [] D') (congrArg Value.bool (sameM_comm m m' L L' [] D')) rfl ?_
        simp only [Act.put, List.setIfInBounds_toArray, List.set_cons_zero, List.set_cons_succ]
        refine wq_val (u := .bool true) rfl (fun v => rfl) ?_
        simp only [Act.put, List.setIfInBounds_toArray, List.set_cons_zero, List.set_cons_succ]
        refine wq_val (u := .bool true) rfl (fun v => rfl) ?_
        simp only [Act.put, List.setIfInBounds_toArray, List.set_cons_zero, List.set_cons_succ]
        refine wq_load rfl (.tmp 6) rfl p6 m _ _ rfl (fun v hv => P68.out.bel hv) ?_
        simp only [Act.put, List.setIfInBounds_toArray, List.set_cons_zero, List.set_cons_succ]
        refine wq_load rfl (.tmp 8) rfl w4.heap.size m _ _ rfl (fun v hv => NB.out.bel hv) ?_
        simp only [Act.put, List.setIfInBounds_toArray, List.set_cons_zero, List.set_cons_succ]
        refine wq_call (fid := 6) (args := #[m.val (.slice (some ⟨g1, 0, none⟩) n1 cc1) (.slice (some ⟨g1', 0, none⟩) n2 cc1'), m.val (.slice al L.length cl) (.slice (some ⟨wA.heap.size, 0, none⟩) 0 0)]) rfl (fun v => by unfold execOp; simp only [resolve, invoke, Sem.run_bind, List.map_toArray, List.map_cons, List.map_nil]; rfl) (fun v hv => (alike_any _ _ _ _ _ _ _ _ _ _ _ _ _ _ _ _ _ _ v (xE.out.later hv) (xD.out.later hv) (EB.out.later hv) (DB.out.later hv)).mono (fun e v' h => ⟨h.1.trans (by rw [sameM_self]), hv.trans (h.2.mono hv.size)⟩)) ?_
        simp only [Act.put, List.setIfInBounds_toArray, List.set_cons_zero, List.set_cons_succ]
        refine wq_val (u := .bool true) rfl (fun v => rfl) ?_
        simp only [Act.put, List.setIfInBounds_toArray, List.set_cons_zero, List.set_cons_succ]
        refine wq_val (u := .bool true) rfl (fun v => rfl) ?_
        simp only [Act.put, List.setIfInBounds_toArray, List.set_cons_zero, List.set_cons_succ]
        refine wq_call (fid := 8) (args := #[.pointer (some ⟨w.heap.size + 2, 0, none⟩)]) rfl (fun v => by unfold execOp; simp only [resolve, invoke, Sem.run_bind, List.map_toArray, List.map_cons, List.map_nil]; rfl) (fun v hv => (IN.out v hv).mono (fun e v' ⟨h, n, hn⟩ => ⟨h, by rw [hn]; exact belN hv n⟩)) ?_
        simp only [Act.put, List.setIfInBounds_toArray, List.set_cons_zero, List.set_cons_succ]
        refine wq_val (u := .bool true) rfl (fun v => rfl) ?_
        simp only [Act.put, List.setIfInBounds_toArray, List.set_cons_zero, List.set_cons_succ]
        refine wq_val (u := .bool true) rfl (fun v => rfl) ?_
        simp only [Act.put, List.setIfInBounds_toArray, List.set_cons_zero, List.set_cons_succ]
        refine wpQuiet_nil (fun v hv => ?_)
        go_wp2
        refine bodyPost_ret (results_tmp rfl _ _ _) rfl ⟨rfl, b8h.out.trans (hv.mono b8h.out.size)⟩
      · have XA := hide (X2.out.upd1 uA (fun g hg e => by have := XO2.out g hg; omega))
        have hzA : w4.heap.size < wA.heap.size := by have := uA.size; omega
        have c17 := NA.out.cell 17 _ rfl
        have f17 := NA.out.free 17
        have hl : ¬ (D.length : Int) = 0 := by
          have := List.length_pos_iff.2 hD
          omega
        go_upto_region 8 with fail
        clear c17 f17 hl
        obtain ⟨wB, hwB⟩ : ∃ wB, wB = wA := ⟨_, rfl⟩
        have uB : Upd (fun k => k = w4.heap.size) w6 wB := by rw [hwB]; exact uA
        have NB : Hid (MBox wB w4.heap.size m (.slice al L.length cl) (.slice am D.length cm)) := by rw [hwB]; exact NA
        have EB : Hid (SlY yE wB al L.length cl L) := by rw [hwB]; exact EA
        have DB : Hid (SlY yD wB am D.length cm D) := by rw [hwB]; exact XA.out.sl' kD
        rw [← hwB]
        clear hwB
        have b8 : Below w.heap.size w wB := B6.out.trans (uB.below (by have := B6.out.size; omega) (fun k hk => by omega))
        have A8 := hide (A6.out.upd uB (by omega))
        have C8 := hide (C6.out.upd uB (by omega))
        have P68 := hide (M66.out.upd uB (by have := PL.out.1; omega))
        have P78 := hide (M76.out.upd uB (by have := PL.out.2; omega))
        have G8 := hide (G6.out.msg N8.out (by omega) uB)
        obtain ⟨g1, cc1, g1', cc1', rfl, rfl, mem1, mem1'⟩ := HI1.out.ex
        obtain ⟨g2, cc2, g2', cc2', rfl, rfl, mem2, mem2'⟩ := HI2.out.ex
        have xE := hide (G8.out.logAt mem1 H1.out.len)
        have xD := hide (G8.out.vecAt mem1' H2.out.len)
        have yE' := hide (G8.out.logAt mem2 H3.out.len)
        have yD' := hide (G8.out.vecAt mem2' H4.out.len)
        have iE := hide (H1.out.bel b8 (Nat.le_refl _))
        have iD := hide (H2.out.bel b8 (Nat.le_refl _))
        have jE := hide (H3.out.bel b8 (Nat.le_refl _))
        have jD := hide (H4.out.bel b8 (Nat.le_refl _))
        have IN := hide (fun (v : World) (hv : Below wB.heap.size wB v) => intactM_any _ _ _ _ _ _ _ _ _ _ v (G8.out.bel hv) HK.out.dm HK.out.lm)
        have b8h := hide b8
        clear uB b8 mem1 mem1' mem2 mem2' HI1 HI2 HK H1 H2 H3 H4 A6 C6 M66 M76 G6 N8 X1 X2 uA NA EA XA EAn
        refine region_qC8 (C := fun v => Below wB.heap.size wB v) (by kernel_rfl) (by kernel_rfl) (Below.refl _ _).drew ?_
        refine wq_load rfl (.tmp 6) rfl p6 m _ _ rfl (fun v hv => P68.out.bel hv) ?_
        simp only [Act.put, List.setIfInBounds_toArray, List.set_cons_zero, List.set_cons_succ]
        refine wq_load rfl (.tmp 7) rfl p7 m' _ _ rfl (fun v hv => P78.out.bel hv) ?_
        simp only [Act.put, List.setIfInBounds_toArray, List.set_cons_zero, List.set_cons_succ]
        refine wq_call (fid := 6) (args := #[m.val (.slice (some ⟨g1, 0, none⟩) n1 cc1) (.slice (some ⟨g1', 0, none⟩) n2 cc1'), m'.val (.slice (some ⟨g2, 0, none⟩) m1 cc2) (.slice (some ⟨g2', 0, none⟩) m2 cc2')]) rfl (fun v => by unfold execOp; simp only [resolve, invoke, Sem.run_bind, List.map_toArray, List.map_cons, List.map_nil]; rfl) (fun v hv => (alike_any _ _ _ _ _ _ _ _ _ _ _ _ _ _ _ _ _ _ v (xE.out.later hv) (xD.out.later hv) (yE'.out.later hv) (yD'.out.later hv)).mono (fun e v' h => ⟨h.1, hv.trans (h.2.mono hv.size)⟩)) ?_
        simp only [Act.put, List.setIfInBounds_toArray, List.set_cons_zero, List.set_cons_succ]
        refine wq_load rfl (.tmp 2) rfl w.heap.size m _ _ rfl (fun v hv => A8.out.bel hv) ?_
        simp only [Act.put, List.setIfInBounds_toArray, List.set_cons_zero, List.set_cons_succ]
        refine wq_load rfl (.tmp 3) rfl (w.heap.size + 1) m' _ _ rfl (fun v hv => C8.out.bel hv) ?_
        simp only [Act.put, List.setIfInBounds_toArray, List.set_cons_zero, List.set_cons_succ]
        refine wq_call (fid := 7) (args := #[m.val (.slice a1 n1 c1) (.slice a2 n2 c2), m'.val (.slice b1 m1 e1) (.slice b2 m2 e2)]) rfl (fun v => by unfold execOp; simp only [resolve, invoke, Sem.run_bind, List.map_toArray, List.map_cons, List.map_nil]; rfl) (fun v hv => (samemsg_any _ _ _ _ _ _ _ _ _ _ _ _ _ _ _ _ _ _ v (iE.out.later hv) (iD.out.later hv) (jE.out.later hv) (jD.out.later hv)).mono (fun e v' h => ⟨h.1, hv.trans (h.2.mono hv.size)⟩)) ?_
        simp only [Act.put, List.setIfInBounds_toArray, List.set_cons_zero, List.set_cons_succ]
        refine wq_eqlB rfl (.tmp 29) (.tmp 32) _ rfl (sameM m m' L L' D D') rfl rfl ?_
        simp only [Act.put, List.setIfInBounds_toArray, List.set_cons_zero, List.set_cons_succ]
        refine wq_val (u := .bool true) rfl (fun v => rfl) ?_
        simp only [Act.put, List.setIfInBounds_toArray, List.set_cons_zero, List.set_cons_succ]
        refine wq_load rfl (.tmp 7) rfl p7 m' _ _ rfl (fun v hv => P78.out.bel hv) ?_
        simp only [Act.put, List.setIfInBounds_toArray, List.set_cons_zero, List.set_cons_succ]
        refine wq_load rfl (.tmp 6) rfl p6 m _ _ rfl (fun v hv => P68.out.bel hv) ?_
        simp only [Act.put, List.setIfInBounds_toArray, List.set_cons_zero, List.set_cons_succ]
        refine wq_call (fid := 6) (args := #[m'.val (.slice (some ⟨g2, 0, none⟩) m1 cc2) (.slice (some ⟨g2', 0, none⟩) m2 cc2'), m.val (.slice (some ⟨g1, 0, none⟩) n1 cc1) (.slice (some ⟨g1', 0, none⟩) n2 cc1')]) rfl (fun v => by unfold execOp; simp only [resolve, invoke, Sem.run_bind, List.map_toArray, List.map_cons, List.map_nil]; rfl) (fun v hv => (alike_any _ _ _ _ _ _ _ _ _ _ _ _ _ _ _ _ _ _ v (yE'.out.later hv) (yD'.out.later hv) (xE.out.later hv) (xD.out.later hv)).mono (fun e v' h => ⟨h.1, hv.trans (h.2.mono hv.size)⟩)) ?_
        simp only [Act.put, List.setIfInBounds_toArray, List.set_cons_zero, List.set_cons_succ]
        refine wq_load rfl (.tmp 2) rfl w.heap.size m _ _ rfl (fun v hv => A8.out.bel hv) ?_
        simp only [Act.put, List.setIfInBounds_toArray, List.set_cons_zero, List.set_cons_succ]
        refine wq_load rfl (.tmp 3) rfl (w.heap.size + 1) m' _ _ rfl (fun v hv => C8.out.bel hv) ?_
        simp only [Act.put, List.setIfInBounds_toArray, List.set_cons_zero, List.set_cons_succ]
        refine wq_call (fid := 7) (args := #[m.val (.slice a1 n1 c1) (.slice a2 n2 c2), m'.val (.slice b1 m1 e1) (.slice b2 m2 e2)]) rfl (fun v => by unfold execOp; simp only [resolve, invoke, Sem.run_bind, List.map_toArray, List.map_cons, List.map_nil]; rfl) (fun v hv => (samemsg_any _ _ _ _ _ _ _ _ _ _ _ _ _ _ _ _ _ _ v (iE.out.later hv) (iD.out.later hv) (jE.out.later hv) (jD.out.later hv)).mono (fun e v' h => ⟨h.1, hv.trans (h.2.mono hv.size)⟩)) ?_
        simp only [Act.put, List.setIfInBounds_toArray, List.set_cons_zero, List.set_cons_succ]
        refine wq_eqlB rfl (.tmp 37) (.tmp 40) _ rfl (sameM m m' L L' D D') (congrArg Value.bool (sameM_comm m m' L L' D D')) rfl ?_
        simp only [Act.put, List.setIfInBounds_toArray, List.set_cons_zero, List.set_cons_succ]
        refine wq_val (u := .bool true) rfl (fun v => rfl) ?_
        simp only [Act.put, List.setIfInBounds_toArray, List.set_cons_zero, List.set_cons_succ]
        refine wq_val (u := .bool true) rfl (fun v => rfl) ?_
        simp only [Act.put, List.setIfInBounds_toArray, List.set_cons_zero, List.set_cons_succ]
        refine wq_load rfl (.tmp 6) rfl p6 m _ _ rfl (fun v hv => P68.out.bel hv) ?_
        simp only [Act.put, List.setIfInBounds_toArray, List.set_cons_zero, List.set_cons_succ]
        refine wq_load rfl (.tmp 8) rfl w4.heap.size m _ _ rfl (fun v hv => NB.out.bel hv) ?_
        simp only [Act.put, List.setIfInBounds_toArray, List.set_cons_zero, List.set_cons_succ]
        refine wq_call (fid := 6) (args := #[m.val (.slice (some ⟨g1, 0, none⟩) n1 cc1) (.slice (some ⟨g1', 0, none⟩) n2 cc1'), m.val (.slice al L.length cl) (.slice am D.length cm)]) rfl (fun v => by unfold execOp; simp only [resolve, invoke, Sem.run_bind, List.map_toArray, List.map_cons, List.map_nil]; rfl) (fun v hv => (alike_any _ _ _ _ _ _ _ _ _ _ _ _ _ _ _ _ _ _ v (xE.out.later hv) (xD.out.later hv) (EB.out.later hv) (DB.out.later hv)).mono (fun e v' h => ⟨h.1.trans (by rw [sameM_self]), hv.trans (h.2.mono hv.size)⟩)) ?_
        simp only [Act.put, List.setIfInBounds_toArray, List.set_cons_zero, List.set_cons_succ]
        refine wq_val (u := .bool true) rfl (fun v => rfl) ?_
        simp only [Act.put, List.setIfInBounds_toArray, List.set_cons_zero, List.set_cons_succ]
        refine wq_val (u := .bool true) rfl (fun v => rfl) ?_
        simp only [Act.put, List.setIfInBounds_toArray, List.set_cons_zero, List.set_cons_succ]
        refine wq_call (fid := 8) (args := #[.pointer (some ⟨w.heap.size + 2, 0, none⟩)]) rfl (fun v => by unfold execOp; simp only [resolve, invoke, Sem.run_bind, List.map_toArray, List.map_cons, List.map_nil]; rfl) (fun v hv => (IN.out v hv).mono (fun e v' ⟨h, n, hn⟩ => ⟨h, by rw [hn]; exact belN hv n⟩)) ?_
        simp only [Act.put, List.setIfInBounds_toArray, List.set_cons_zero, List.set_cons_succ]
        refine wq_val (u := .bool true) rfl (fun v => rfl) ?_
        simp only [Act.put, List.setIfInBounds_toArray, List.set_cons_zero, List.set_cons_succ]
        refine wq_val (u := .bool true) rfl (fun v => rfl) ?_
        simp only [Act.put, List.setIfInBounds_toArray, List.set_cons_zero, List.set_cons_succ]
        refine wpQuiet_nil (fun v hv => ?_)
        go_wp2
        refine bodyPost_ret (results_tmp rfl _ _ _) rfl ⟨rfl, b8h.out.trans (hv.mono b8h.out.size)⟩

end Go.Proofs.Ytgjmiemkjnnepaa
