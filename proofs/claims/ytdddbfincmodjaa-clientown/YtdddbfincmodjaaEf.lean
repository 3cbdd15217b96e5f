import Derived.Test.YtdddbfincmodjaaEe
namespace Go.Proofs.Ytdddbfincmodjaa
open Go.RowKit Go.Maps
open Classical
set_option linter.unusedVariables false
set_option linter.unusedSimpArgs false

theorem fits_set (K : List En) (i0 : Nat) (e0 : En) (he0 : K[i0]? = some e0) (hKf : ∀ e ∈ K, e.fits) : ∀ e ∈ K.set i0 ⟨bits .xor .i64 e0.c 1, e0.n, ⟨1, (i0 : Int) % 5, ⟨#[122]⟩⟩⟩, e.fits := by
  intro e he
  rcases List.mem_or_eq_of_mem_set he with h | rfl
  · exact hKf e h
  · have f0 := hKf e0 (List.mem_of_getElem? he0)
    have x0 : (Lit.int .i64 (bits .xor .i64 e0.c 1)).wf = true := wf_bits .xor .i64 e0.c 1
    refine ⟨x0, f0.nw, ⟨(by decide : (Lit.int .i64 1).wf = true), ?_, ?_⟩⟩
    · simp [Lit.wf, IntKind.min, IntKind.max, IntKind.bits, IntKind.signed]
      omega
    · show 1 ≤ maxLen
      unfold maxLen
      omega

set_option maxRecDepth 100000 in
set_option maxHeartbeats 8000000 in
theorem own_walk (L M : List En) (a am : Option Addr) (c cm : Nat) (k : Int) (w : World) (h : SlY yE w a L.length c L) (hm : SlY yE w am M.length cm M) (hf : ∀ e ∈ L, e.fits) (hfm : ∀ e ∈ M, e.fits) (hL : L.length * 48 ≤ 140737488351232) (hM : M.length * 48 ≤ 140737488351232) :
    Calls Try.prog 8 #[.slice a L.length c, .slice am M.length cm, .int .i64 k] w fun e w' => e = .returned (.bool true) ∧ Below w.heap.size w w' := by
  have hmx := h.max
  have hcp := h.cap
  have hmx2 := hm.max
  have hcp2 := hm.cap
  unfold maxLen at hmx hmx2
  have H := hide h
  have HM := hide hm
  clear h hm
  go_enter Try.func8, Try.ntmps8
  go_wp2_with fail
  refine (alive_any w).mono ?_
  rintro e w1 ⟨rfl, b1⟩
  have z1 := b1.size
  have bb1 := hide b1
  have bA := (Below.refl w1.heap.size w1).alloc (Nat.le_refl _) (.cells #[.slice none 0 0, .slice none 0 0, .slice none 0 0, .slice none 0 0, .slice none 0 0, .slice none 0 0, .slice none 0 0, .slice none 0 0, .slice none 0 0, .slice none 0 0] 29)
  have bB := (Below.refl (w1.heap.size + 1) (w1.alloc (.cells #[.slice none 0 0, .slice none 0 0, .slice none 0 0, .slice none 0 0, .slice none 0 0, .slice none 0 0, .slice none 0 0, .slice none 0 0, .slice none 0 0, .slice none 0 0] 29))).alloc (by simp) (.cells #[.slice none 0 0, .slice none 0 0, .slice none 0 0, .slice none 0 0, .slice none 0 0, .slice none 0 0, .slice none 0 0, .slice none 0 0, .slice none 0 0, .slice none 0 0] 71)
  have b2 : Below w.heap.size w ((w1.alloc (.cells #[.slice none 0 0, .slice none 0 0, .slice none 0 0, .slice none 0 0, .slice none 0 0, .slice none 0 0, .slice none 0 0, .slice none 0 0, .slice none 0 0, .slice none 0 0] 29)).alloc (.cells #[.slice none 0 0, .slice none 0 0, .slice none 0 0, .slice none 0 0, .slice none 0 0, .slice none 0 0, .slice none 0 0, .slice none 0 0, .slice none 0 0, .slice none 0 0] 71)) := b1.trans ((bA.mono z1).trans (bB.mono (by omega)))
  have GN := ((GY.new yE zE 4 (by omega) w1 29).bel (by have := bB; rw [← World.size_alloc w1 (.cells #[.slice none 0 0, .slice none 0 0, .slice none 0 0, .slice none 0 0, .slice none 0 0, .slice none 0 0, .slice none 0 0, .slice none 0 0, .slice none 0 0, .slice none 0 0] 29)] at this; exact this)).lift (B' := w1.heap.size + 2) (by omega) (by simp)
  have cg1 := given_ent _ w1.heap.size (w1.heap.size + 2) _ _ [] [] a L.length c L _ GN (H.out.later b2) hL (by simp) rfl
  have BN := BY.new yR zRR 5 (by omega) (w1.alloc (.cells #[.slice none 0 0, .slice none 0 0, .slice none 0 0, .slice none 0 0, .slice none 0 0, .slice none 0 0, .slice none 0 0, .slice none 0 0, .slice none 0 0, .slice none 0 0] 29)) 71
  rw [World.size_alloc] at BN
  have BNH := hide BN
  have B2 := hide b2
  clear b1 bA bB GN BN b2
  go_wp2_with fail
  refine cg1.mono ?_
  rintro e w3 ⟨g1, c1, va, vb, g5, k5, rfl, s1, hg1, G1, U1, _, _⟩
  have z3 := U1.size
  simp only [World.size_alloc] at z3 hg1
  have b3 : Below w.heap.size w w3 := B2.out.trans (U1.below (by simp; omega) (fun k hk => by
    rcases hk with rfl | hk | hk
    · omega
    · cases hk
    · cases hk))
  have cg2 := given_ent _ w1.heap.size (w1.heap.size + 2) va vb _ _ am M.length cm M w3 G1 (HM.out.later b3) hM (by simp) (by simp)
  have G1h := hide G1
  have B3 := hide b3
  have U1h := hide U1
  have hmc := s1.max
  have hpc := s1.cap
  unfold maxLen at hmc
  clear cg1 G1 s1 b3 U1
  go_wp2_with fail
  refine cg2.mono ?_
  rintro e w4 ⟨g2, c2, va2, vb2, g6, k6, rfl, s2, hg2, G2, U2, _, _⟩
  have z4 := U2.size
  have hmc2 := s2.max
  have hpc2 := s2.cap
  unfold maxLen at hmc2
  have hva : ∀ k, w1.heap.size = k ∨ va.ownBlock = some k ∨ vb.ownBlock = some k → k ≠ w1.heap.size + 1 ∧ w1.heap.size ≤ k := fun k hk => by
    rcases hk with hk | hk | hk
    · omega
    · have := (G1h.out.oa.blk k hk).1; omega
    · have := (G1h.out.ob.blk k hk).1; omega
  have B4 : Hid (Below w.heap.size w w4) := B3.out.trans (U2.below B3.out.size (fun k hk => by have := (hva k (hk.imp Eq.symm id)).2; omega))
  have UU : Upd (fun k => k ≠ w1.heap.size + 1) ((w1.alloc (.cells #[.slice none 0 0, .slice none 0 0, .slice none 0 0, .slice none 0 0, .slice none 0 0, .slice none 0 0, .slice none 0 0, .slice none 0 0, .slice none 0 0, .slice none 0 0] 29)).alloc (.cells #[.slice none 0 0, .slice none 0 0, .slice none 0 0, .slice none 0 0, .slice none 0 0, .slice none 0 0, .slice none 0 0, .slice none 0 0, .slice none 0 0, .slice none 0 0] 71)) w4 := (U1h.out.mono (fun k _ hk => by
    rcases hk with rfl | hk | hk
    · omega
    · cases hk
    · cases hk)).trans (U2.mono (fun k _ hk => (hva k (hk.imp Eq.symm id)).1))
  have BK := hide (BNH.out.lift UU (by omega) (B' := w4.heap.size) (by omega) (Nat.le_refl _))
  have X1 := hide ((G2.da ⟨some ⟨g1, 0, none⟩, c1, L ++ [mkE]⟩ (by simp)).front kE rfl)
  have X2 := hide ((G2.da ⟨some ⟨g2, 0, none⟩, c2, M ++ [mkE]⟩ (by simp)).front kE rfl)
  have G4 := hide G2
  clear cg2 G1h BNH U2 UU hva U1h B3 B2 s2 G2
  go_wp2_with fail
  go_loopw [11] (fun i wr => ∃ i0 : Nat, i = .int .i64 (i0 : Int) ∧ i0 ≤ 3 ∧ Upd (fun i => i = w1.heap.size + 1) w4 wr ∧ ∃ v V, BY yR zRR 5 wr (w1.heap.size + 1) w4.heap.size v V ∧ V.length ≤ 2 * i0) (fun i _ => 3 - (intOf i).toNat)
  case atStart => exact ⟨0, rfl, by omega, Upd.refl _ _, _, _, BK.out, by simp⟩
  case round =>
    obtain ⟨i0, rfl, hi0, hu, v, V, G, hVl⟩ := hrel
    have HG := hide G
    have HV : Hid (∀ y, y ∈ V → ∀ g, y.a = some ⟨g, 0, none⟩ → g < wr.heap.size) := fun y hy g hg => (inY_ge G ⟨y, hy, hg⟩).2
    clear G
    by_cases hlt : i0 < 3
    · by_cases h1 : i0 = 1
      · subst h1
        have S5 := X2.out.upd hu (fun x hx _ e => by cases hx; dsimp only at e; omega)
        have ct := table_any M (some ⟨g2, 0, none⟩) c2 k wr S5 hfm
        clear S5
        go_wp2_with fail
        refine ct.mono ?_
        rintro e w5 ⟨v5, rfl, o5, b5⟩
        have z5 := b5.size
        have G5 := hide (HG.out.bel b5)
        have l5 := tbl_le M k
        have hu5 := hide (hu.trans (Upd.of_below b5))
        have cb := between0_any M (some ⟨g2, 0, none⟩) c2 w5 (X2.out.upd hu5.out (fun x hx _ e => by cases hx; dsimp only at e; omega)) hfm
        have O5 := hide o5
        clear ct o5 b5
        go_wp2_with fail
        refine cb.mono ?_
        rintro e w6 ⟨v6, rfl, o6, b6⟩
        have z6 := b6.size
        have G6 := hide (G5.out.bel b6)
        have l6 := btw_le M
        have hu6 := hide (hu5.out.trans (Upd.of_below b6))
        have O56 := hide (O5.out.grow b6)
        have O6 := hide o6
        have cR := bookR (w1.heap.size + 1) w4.heap.size wr.heap.size w5.heap.size v V v5 (tbl M k) w6 G6.out O56.out hu.size (by omega) HV.out (by omega) z5 (fun g hg => (O5.out.blk g hg).2)
        clear cb o6 b6 G5
        have hlt6 := hu6.out.size
        go_wp2_with fail
        refine cR.mono ?_
        rintro e w7 ⟨rfl, v7, V7, G7, hl7, u7, hV7⟩
        have z7 := u7.size
        have O7 := hide (O6.out.upd1 u7 (fun g hg hs => by
          have h1 := O6.out.blk g hg
          rcases hs with hs | hs
          · have := hu.size; omega
          · exact O6.out.apart G6.out.o hTRR g hg hs))
        have hu7 : Hid (Upd (fun i => i = w1.heap.size + 1) w4 w7) := hu6.out.trans2 u7 (fun i hi hs => by
          rcases hs with hs | hs
          · exact hs
          · have := (G6.out.o.blk i hs).1; omega)
        have cR2 := bookR (w1.heap.size + 1) w4.heap.size w5.heap.size w6.heap.size v7 V7 v6 (btw M 0 (M.length : Int)) w7 G7 O7.out (by have := hu.size; omega) (by omega) hV7 (by omega) z6 (fun g hg => (O6.out.blk g hg).2)
        have G7h := hide G7
        clear cR G7 hV7 u7
        go_wp2_with fail
        refine cR2.mono ?_
        rintro e w8 ⟨rfl, v8, V8, G8, hl8, u8, _⟩
        have hu8 : Hid (Upd (fun i => i = w1.heap.size + 1) w4 w8) := hu7.out.trans2 u8 (fun i hi hs => by
          rcases hs with hs | hs
          · exact hs
          · have := (G7h.out.o.blk i hs).1; omega)
        have G8h := hide G8
        clear cR2 G8 u8
        go_wp2
        go_round
        case rel => exact ⟨2, by go_num, by omega, hu8.out, v8, V8, G8h.out, by omega⟩
        case measure => simp [intOf]
      · have h2 : ((i0 : Int) == 1) = false := by simp; omega
        have h3 : ¬ (i0 : Int) = 1 := by omega
        have S5 := X1.out.upd hu (fun x hx _ e => by cases hx; dsimp only at e; omega)
        have ct := table_any L (some ⟨g1, 0, none⟩) c1 k wr S5 hf
        clear S5
        go_wp2_with fail
        refine ct.mono ?_
        rintro e w5 ⟨v5, rfl, o5, b5⟩
        have z5 := b5.size
        have G5 := hide (HG.out.bel b5)
        have l5 := tbl_le L k
        have hu5 := hide (hu.trans (Upd.of_below b5))
        have cb := between0_any L (some ⟨g1, 0, none⟩) c1 w5 (X1.out.upd hu5.out (fun x hx _ e => by cases hx; dsimp only at e; omega)) hf
        have O5 := hide o5
        clear ct o5 b5
        go_wp2_with fail
        refine cb.mono ?_
        rintro e w6 ⟨v6, rfl, o6, b6⟩
        have z6 := b6.size
        have G6 := hide (G5.out.bel b6)
        have l6 := btw_le L
        have hu6 := hide (hu5.out.trans (Upd.of_below b6))
        have O56 := hide (O5.out.grow b6)
        have O6 := hide o6
        have cR := bookR (w1.heap.size + 1) w4.heap.size wr.heap.size w5.heap.size v V v5 (tbl L k) w6 G6.out O56.out hu.size (by omega) HV.out (by omega) z5 (fun g hg => (O5.out.blk g hg).2)
        clear cb o6 b6 G5
        have hlt6 := hu6.out.size
        go_wp2_with fail
        refine cR.mono ?_
        rintro e w7 ⟨rfl, v7, V7, G7, hl7, u7, hV7⟩
        have z7 := u7.size
        have O7 := hide (O6.out.upd1 u7 (fun g hg hs => by
          have h1 := O6.out.blk g hg
          rcases hs with hs | hs
          · have := hu.size; omega
          · exact O6.out.apart G6.out.o hTRR g hg hs))
        have hu7 : Hid (Upd (fun i => i = w1.heap.size + 1) w4 w7) := hu6.out.trans2 u7 (fun i hi hs => by
          rcases hs with hs | hs
          · exact hs
          · have := (G6.out.o.blk i hs).1; omega)
        have cR2 := bookR (w1.heap.size + 1) w4.heap.size w5.heap.size w6.heap.size v7 V7 v6 (btw L 0 (L.length : Int)) w7 G7 O7.out (by have := hu.size; omega) (by omega) hV7 (by omega) z6 (fun g hg => (O6.out.blk g hg).2)
        have G7h := hide G7
        clear cR G7 hV7 u7
        go_wp2_with fail
        refine cR2.mono ?_
        rintro e w8 ⟨rfl, v8, V8, G8, hl8, u8, _⟩
        have hu8 : Hid (Upd (fun i => i = w1.heap.size + 1) w4 w8) := hu7.out.trans2 u8 (fun i hi hs => by
          rcases hs with hs | hs
          · exact hs
          · have := (G7h.out.o.blk i hs).1; omega)
        have G8h := hide G8
        clear cR2 G8 u8
        go_wp2
        go_round
        case rel => exact ⟨i0 + 1, by go_num, by omega, hu8.out, v8, V8, G8h.out, by omega⟩
        case measure => simp [intOf]; omega
    · obtain rfl : i0 = 3 := by omega
      have zr := hu.size
      have cA := apart_by (w1.heap.size + 1) w4.heap.size v V wr HG.out (by omega)
      go_wp2_with fail
      refine cA.mono ?_
      rintro e w5 ⟨rfl, u5⟩
      have z5 := u5.size
      have hu5 : Hid (Upd (fun i => i = w1.heap.size + 1) w4 w5) := hu.trans2 u5 (fun i hi hs => by have := (inY_ge HG.out hs).1; omega)
      have G5 := hide (G4.out.upd hu5.out (by omega) (fun k h1 h2 => by omega))
      have b5 : Hid (Below w.heap.size w w5) := B4.out.trans (hu5.out.below B4.out.size (fun k hk => by omega))
      have ci := intactE_any w1.heap.size (w1.heap.size + 2) va2 vb2 _ _ w5 G5.out rfl
      clear cA u5 HG HV hu X1 X2 G4 BK
      go_wp2_with fail
      refine ci.mono ?_
      rintro e w6 ⟨rfl, n6, rfl⟩
      have b6 : Hid (Below w.heap.size w (w5.drewN n6)) := belN b5.out n6
      have cc := copyent_any a L.length c L _ (H.out.later b6.out) (by omega)
      clear ci G5 hu5 b5
      go_wp2_with fail
      refine cc.mono ?_
      rintro e w7 ⟨v7, rfl, o7, b7⟩
      have z7 := b7.size
      have bb7 : Hid (Below w.heap.size w w7) := b6.out.trans (b7.mono b6.out.size)
      have zb := b6.out.size
      obtain ⟨a7, c7, rfl, s7, _⟩ := o7.sl kE
      have O7 := hide o7
      have ct := table_any L a7 c7 k w7 s7 hf
      have hm7 := s7.max
      have hp7 := s7.cap
      unfold maxLen at hm7
      clear cc o7 s7 b7 b6
      generalize hq : (w5.drewN n6).heap.size = q at *
      go_wp2_with fail
      refine ct.mono ?_
      rintro e w8 ⟨v8, rfl, _, b8⟩
      have z8 := b8.size
      have O8 := hide (O7.out.grow b8)
      have bb8 : Hid (Below w.heap.size w w8) := bb7.out.trans (b8.mono (by omega))
      obtain ⟨_, _, hh, s8, _⟩ := O8.out.sl kE
      cases hh
      have cb := between0_any L a7 c7 w8 s8 hf
      clear ct s8 b8 O7 bb7
      go_wp2_with fail
      refine cb.mono ?_
      rintro e w9 ⟨v9, rfl, _, b9⟩
      have z9 := b9.size
      have O9 := hide (O8.out.grow b9)
      have bb9 : Hid (Below w.heap.size w w9) := bb8.out.trans (b9.mono (by omega))
      obtain ⟨_, _, hh, s9, _⟩ := O9.out.sl kE
      cases hh
      have ca := ask_any L a7 c7 k 1 1 w9 s9 hf
      clear cb s9 b9 O8 bb8
      generalize akV L k 1 1 = V9 at *
      generalize akE L k 1 1 = x9 at *
      obtain ⟨v0, r0, r1, r2⟩ := V9
      dsimp only [rV] at ca
      go_wp2_with fail
      refine ca.mono ?_
      rintro e w10 ⟨rfl, b10⟩
      have z10 := b10.size
      have O10 := hide (O9.out.grow b10)
      have bb10 : Hid (Below w.heap.size w w10) := bb9.out.trans (b10.mono (by omega))
      clear ca b10 O9 bb9
      go_wp2_with fail
      go_loopw [18] (fun i wq => ∃ (i0 : Nat) (K : List En), i = .int .i64 (i0 : Int) ∧ i0 ≤ L.length ∧ K.length = L.length ∧ (∀ e ∈ K, e.fits) ∧ OwnY yE q wq (.slice a7 L.length c7) K ∧ Below w.heap.size w wq ∧ q ≤ wq.heap.size) (fun i _ => L.length - (intOf i).toNat)
      case atStart => exact ⟨0, L, rfl, by omega, rfl, hf, O10.out, bb10.out, by omega⟩
      case round =>
        obtain ⟨i0, K, rfl, hi0', hK, hKf, OK, bK, hq2⟩ := hrel
        have OKh := hide OK
        have BKh := hide bK
        clear O10 bb10 bK
        by_cases hlt : i0 < L.length
        · obtain ⟨e0, he0⟩ : ∃ e0, K[i0]? = some e0 := ⟨K[i0]'(by omega), List.getElem?_eq_getElem (by omega)⟩
          obtain ⟨_, _, hh, hx1, hx2, h3, h4⟩ := OK.form
          injection hh with hh1 hh2 hh3
          subst hh1
          subst hh3
          rcases hz : a7 with _ | x
          · have := (h3 hz).1
            simp [this] at hK
            omega
          · obtain ⟨g, rfl, hqg, hgw⟩ := h4 x hz
            subst hz
            clear h3 h4 OK hh2 hx1 hx2
            go_wp2_with fail
            refine (write_any _ _ _).mono ?_
            rintro e w11 ⟨rfl, b11⟩
            have z11 := b11.size
            have O11 := hide (OKh.out.grow b11)
            have B11 : Hid (Below w.heap.size w w11) := BKh.out.trans (b11.mono (by omega))
            clear OKh BKh b11
            have hKl : i0 < K.length := by omega
            go_wp2_with (first
              | (refine storeY kE _ rfl 59 (.tmp 94) (.tmp 92) rfl q g L.length c7 K i0 2 e0 ⟨e0.c, e0.n, ⟨1, (i0 : Int) % 5, ⟨#[122]⟩⟩⟩ _ rfl rfl he0 (by kernel_rfl) (by exact (by decide : 5 ≤ 5)) rfl O11.out ?_; intro w12 o12 uu12 z12; have g12 : (K.set i0 ⟨e0.c, e0.n, ⟨1, (i0 : Int) % 5, ⟨#[122]⟩⟩⟩)[i0]? = some ⟨e0.c, e0.n, ⟨1, (i0 : Int) % 5, ⟨#[122]⟩⟩⟩ := List.getElem?_set_self hKl; have c12 : w12.cell? ⟨g, i0 * 5, none⟩ = some (.int .i64 e0.c) := o12.cell kE i0 _ g12 0 (.int .i64 e0.c) rfl; have O12 := hide o12; have G12 := hide g12; clear o12 g12)
              | (refine storeY kE _ rfl 3 (.tmp 104) (.tmp 102) rfl q g L.length c7 _ i0 0 _ ⟨bits .xor .i64 e0.c 1, e0.n, ⟨1, (i0 : Int) % 5, ⟨#[122]⟩⟩⟩ _ rfl rfl G12.out (by kernel_rfl) (by exact (by decide : 1 ≤ 5)) rfl O12.out ?_; intro w13 o13 uu13 z13; rw [List.set_set] at o13; have O13 := hide o13; clear o13))
            have hlen2 : Hid ((K.set i0 ⟨bits .xor .i64 e0.c 1, e0.n, ⟨1, (i0 : Int) % 5, ⟨#[122]⟩⟩⟩).length = L.length) := (List.length_set).trans hK
            have hfit2 := hide (fits_set K i0 e0 he0 hKf)
            have c1 : Hid (Below w.heap.size w w12) := B11.out.trans (uu12.below (by omega) (fun k hk => by
              have hk : k = g := hk
              omega))
            have c2 : Hid (Below w.heap.size w w13) := c1.out.trans (uu13.below (by omega) (fun k hk => by
              have hk : k = g := hk
              omega))
            have q13 : q ≤ w13.heap.size := by omega
            have i13 : i0 + 1 ≤ L.length := hlt
            have e13 : Value.int IntKind.i64 ((i0 : Int) + 1) = Value.int IntKind.i64 ((i0 + 1 : Nat) : Int) := by rw [Int.natCast_succ]
            have m13 : L.length - (intOf (Value.int IntKind.i64 ((i0 : Int) + 1))).toNat < L.length - (intOf (Value.int IntKind.i64 (i0 : Int))).toNat := by
              show L.length - ((i0 : Int) + 1).toNat < L.length - ((i0 : Int)).toNat
              omega
            exact ⟨⟨i0 + 1, _, e13, i13, hlen2.out, hfit2.out, O13.out, c2.out, q13⟩, m13⟩
        · obtain rfl : i0 = L.length := by omega
          clear OK
          have ct := table_any K a7 c7 k wr (by rw [hK]; exact OKh.out.sl' kE) hKf
          rw [hK] at ct
          go_wp2_with fail
          refine ct.mono ?_
          rintro e x1 ⟨t1, rfl, ot1, bt1⟩
          have y1 := bt1.size
          have K1 := hide (OKh.out.grow bt1)
          have B1 : Hid (Below w.heap.size w x1) := BKh.out.trans (bt1.mono (by omega))
          have T1 := hide ot1
          clear ct OKh BKh bt1 ot1
          have cr := reftable_any K a7 c7 k x1 (by rw [hK]; exact K1.out.sl' kE) hKf
          rw [hK] at cr
          go_wp2_with fail
          refine cr.mono ?_
          rintro e x2 ⟨t2, rfl, ot2, bt2⟩
          have y2 := bt2.size
          have K2 := hide (K1.out.grow bt2)
          have B2 : Hid (Below w.heap.size w x2) := B1.out.trans (bt2.mono (by omega))
          have T12 := hide (T1.out.grow bt2)
          have T2 := hide ot2
          clear cr K1 B1 T1 bt2 ot2
          have cb := between0_any K a7 c7 x2 (by rw [hK]; exact K2.out.sl' kE) hKf
          rw [← ckB_len] at cb
          rw [hK] at cb
          go_wp2_with fail
          refine cb.mono ?_
          rintro e x3 ⟨t3, rfl, ot3, bt3⟩
          have y3 := bt3.size
          have K3 := hide (K2.out.grow bt3)
          have B3 : Hid (Below w.heap.size w x3) := B2.out.trans (bt3.mono (by omega))
          have T13 := hide (T12.out.grow bt3)
          have T23 := hide (T2.out.grow bt3)
          have T3 := hide ot3
          clear cb K2 B2 T12 T2 bt3 ot3
          have cd := refbetween_any K a7 c7 0 (K.length : Int) x3 (by rw [hK]; exact K3.out.sl' kE) hKf
          rw [hK] at cd
          go_wp2_with fail
          refine cd.mono ?_
          rintro e x4 ⟨t4, rfl, ot4, bt4⟩
          have y4 := bt4.size
          have K4 := hide (K3.out.grow bt4)
          have B4 : Hid (Below w.heap.size w x4) := B3.out.trans (bt4.mono (by omega))
          have T14 := hide (T13.out.grow bt4)
          have T24 := hide (T23.out.grow bt4)
          have T34 := hide (T3.out.grow bt4)
          have T4 := hide ot4
          clear cd K3 B3 T13 T23 T3 bt4 ot4
          have ca := ask_any K a7 c7 k 1 1 x4 (by rw [hK]; exact K4.out.sl' kE) hKf
          have HR := hide (fun W hW => refask_any K a7 c7 k 1 1 W hW hKf)
          rw [hK] at ca HR
          generalize akV K k 1 1 = VV at *
          generalize akE K k 1 1 = xx at *
          obtain ⟨vv, p0, p1, p2⟩ := VV
          dsimp only [rV] at ca HR
          go_wp2_with fail
          refine ca.mono ?_
          rintro e x5 ⟨rfl, bt5⟩
          have y5 := bt5.size
          have bA5 := (Below.refl x5.heap.size x5).alloc (Nat.le_refl _) (.cells #[.int .i64 p0, .int .i64 p1, .string p2] 43)
          have B5 := hide ((B4.out.trans (bt5.mono (by omega))).alloc (by omega) (.cells #[.int .i64 p0, .int .i64 p1, .string p2] 43))
          have K5 := hide ((K4.out.grow bt5).grow bA5)
          have T15 := hide ((T14.out.grow bt5).grow bA5)
          have T25 := hide ((T24.out.grow bt5).grow bA5)
          have T35 := hide ((T34.out.grow bt5).grow bA5)
          have T45 := hide ((T4.out.grow bt5).grow bA5)
          have cq := HR.out _ (by exact K5.out.sl' kE)
          clear ca HR K4 B4 T14 T24 T34 T4 bA5 bt5
          go_wp2_with fail
          refine cq.mono ?_
          rintro e x6 ⟨rfl, bt6⟩
          have y6 := bt6.size
          simp only [World.size_alloc] at y6
          obtain ⟨⟨q0, q1, q2⟩, _⟩ := box3 bt6 (by simp)
          have bA6 := (Below.refl x6.heap.size x6).alloc (Nat.le_refl _) (.cells #[.int .i64 p0, .int .i64 p1, .string p2] 43)
          have B6 := hide ((B5.out.trans (bt6.mono (by simp; omega))).alloc (by omega) (.cells #[.int .i64 p0, .int .i64 p1, .string p2] 43))
          have hzz : x5.heap.size < x6.heap.size := by omega
          obtain ⟨d1, m1, rfl, s1, _⟩ := ((T15.out.grow bt6).grow bA6).sl kR
          obtain ⟨d2, m2, rfl, s2, _⟩ := ((T25.out.grow bt6).grow bA6).sl kR
          obtain ⟨d3, m3, rfl, s3, _⟩ := ((T35.out.grow bt6).grow bA6).sl kR
          obtain ⟨d4, m4, rfl, s4, _⟩ := ((T45.out.grow bt6).grow bA6).sl kR
          have cs1 := hide (samerows_any _ d1 d2 m1 m2 _ s1 s2)
          have cs2 := fun n => hide (samerows_any _ d3 d4 m3 m4 _ (s3.later (belN (Below.refl _ _) n)) (s4.later (belN (Below.refl _ _) n)))
          clear cq K5 B5 T15 T25 T35 T45 bt6 bA6 s1 s2 s3 s4
          generalize (tbl K k).length = l1 at *
          generalize (btw K 0 (L.length : Int)).length = l2 at *
          generalize ckB K 0 k = o1 at *
          generalize ckB K 0 (L.length : Int) = o2 at *
          go_wp2_with (go_at_call 12; refine (num_any _ _).mono ?_; rintro e w4 ⟨rfl, hw4⟩; subst hw4)
          refine cs1.out.mono ?_
          rintro e w5 ⟨rfl, n5, rfl⟩
          go_wp2_with (go_at_call 12; refine (num_any _ _).mono ?_; rintro e w4 ⟨rfl, hw4⟩; subst hw4)
          refine (cs2 n5).out.mono ?_
          rintro e w6 ⟨rfl, n6, rfl⟩
          go_wp2_with (go_at_call 12; refine (num_any _ _).mono ?_; rintro e w4 ⟨rfl, hw4⟩; subst hw4)
          go_ret
          exact ⟨rfl, belN B6.out (n5 + n6)⟩
theorem own_came (a : Option Addr) (len cap : Nat) (am : Option Addr) (lenm capm : Nat) (k : Int) (W : World) (h : CameE W a len cap) (hm : CameE W am lenm capm) :
    Calls Try.prog 8 #[.slice a len cap, .slice am lenm capm, .int .i64 k] W fun e w' => e = .returned (.bool true) ∧ Below W.heap.size W w' := by
  obtain ⟨P, hs, hf, hb⟩ := h
  obtain ⟨P2, hs2, hf2, hb2⟩ := hm
  obtain rfl := hs.len
  obtain rfl := hs2.len
  exact own_walk P P2 a am cap capm k W hs hs2 hf hf2 hb hb2

end Go.Proofs.Ytdddbfincmodjaa
