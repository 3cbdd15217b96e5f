import Derived.Test.YtegkkoggfjgkbaaGAn
namespace Go.Proofs.Ytegkkoggfjgkbaa
open Go.RowKit Go.Maps
open Classical
set_option linter.unusedVariables false
set_option linter.unusedSimpArgs false

set_option maxRecDepth 100000 in
set_option maxHeartbeats 8000000 in
theorem own1_walk (la lb : List Int) (a ab : Option Addr) (ca cb : Nat) (w : World) (hA : Wi.Hs w a la.length ca la) (hB : Wi.Hs w ab lb.length cb lb) (hma : la.length ≤ 140737488351232) (hmb : lb.length ≤ 140737488351232) (hca : ca ≤ maxLen) (hcb : cb ≤ maxLen) :
    Calls Try.prog 3 #[.slice a la.length ca, .slice ab lb.length cb] w fun e w' => e = .returned (.bool true) ∧ Below w.heap.size w w' := by
  have HA := hide hA
  have HB := hide hB
  have hya : Hid (∀ z ∈ la, 0 ≤ z ∧ z < 256) := hA.byte
  have hyb : Hid (∀ z ∈ lb, 0 ≤ z ∧ z < 256) := hB.byte
  have HCA := hide hca
  have HCB := hide hcb
  have hcl := hA.cap
  have hcl2 : ca ≤ 9223372036854775807 := by unfold maxLen at hca; omega
  clear hA hB hca hcb
  go_enter Try.func3, Try.ntmps3
  go_wp2_with fail
  refine (Wi.alive_any w).mono ?_
  rintro e w1 ⟨rfl, b1⟩
  have E1 : Hid (Below w.heap.size w w1) := b1
  have z1 := b1.size
  clear b1
  have zg : (w1.alloc (.cells #[.slice none 0 0, .slice none 0 0, .slice none 0 0, .slice none 0 0, .slice none 0 0, .slice none 0 0, .slice none 0 0, .slice none 0 0, .slice none 0 0, .slice none 0 0] 30)).heap.size = w1.heap.size + 1 := by simp
  have z2 : ((w1.alloc (.cells #[.slice none 0 0, .slice none 0 0, .slice none 0 0, .slice none 0 0, .slice none 0 0, .slice none 0 0, .slice none 0 0, .slice none 0 0, .slice none 0 0, .slice none 0 0] 30)).alloc (.cells #[.slice none 0 0, .slice none 0 0, .slice none 0 0, .slice none 0 0, .slice none 0 0, .slice none 0 0, .slice none 0 0, .slice none 0 0, .slice none 0 0, .slice none 0 0] 38)).heap.size = w1.heap.size + 2 := by simp
  have bA : Below w1.heap.size w1 (w1.alloc (.cells #[.slice none 0 0, .slice none 0 0, .slice none 0 0, .slice none 0 0, .slice none 0 0, .slice none 0 0, .slice none 0 0, .slice none 0 0, .slice none 0 0, .slice none 0 0] 30)) := (Below.refl _ _).alloc (Nat.le_refl _) _
  have bB : Below (w1.alloc (.cells #[.slice none 0 0, .slice none 0 0, .slice none 0 0, .slice none 0 0, .slice none 0 0, .slice none 0 0, .slice none 0 0, .slice none 0 0, .slice none 0 0, .slice none 0 0] 30)).heap.size (w1.alloc (.cells #[.slice none 0 0, .slice none 0 0, .slice none 0 0, .slice none 0 0, .slice none 0 0, .slice none 0 0, .slice none 0 0, .slice none 0 0, .slice none 0 0, .slice none 0 0] 30)) ((w1.alloc (.cells #[.slice none 0 0, .slice none 0 0, .slice none 0 0, .slice none 0 0, .slice none 0 0, .slice none 0 0, .slice none 0 0, .slice none 0 0, .slice none 0 0, .slice none 0 0] 30)).alloc (.cells #[.slice none 0 0, .slice none 0 0, .slice none 0 0, .slice none 0 0, .slice none 0 0, .slice none 0 0, .slice none 0 0, .slice none 0 0, .slice none 0 0, .slice none 0 0] 38)) := (Below.refl _ _).alloc (Nat.le_refl _) _
  have E2 : Hid (Below w.heap.size w ((w1.alloc (.cells #[.slice none 0 0, .slice none 0 0, .slice none 0 0, .slice none 0 0, .slice none 0 0, .slice none 0 0, .slice none 0 0, .slice none 0 0, .slice none 0 0, .slice none 0 0] 30)).alloc (.cells #[.slice none 0 0, .slice none 0 0, .slice none 0 0, .slice none 0 0, .slice none 0 0, .slice none 0 0, .slice none 0 0, .slice none 0 0, .slice none 0 0, .slice none 0 0] 38))) := E1.out.trans ((bA.trans (bB.mono (by omega))).mono z1)
  have GN := hide (((GY.new yBy zByB 0 (by omega) w1 30).bel bB).raise0 (B' := w1.heap.size + 2) (by omega) (by simp))
  have hbc : Hid (∀ i, i < 10 → ((w1.alloc (.cells #[.slice none 0 0, .slice none 0 0, .slice none 0 0, .slice none 0 0, .slice none 0 0, .slice none 0 0, .slice none 0 0, .slice none 0 0, .slice none 0 0, .slice none 0 0] 30)).alloc (.cells #[.slice none 0 0, .slice none 0 0, .slice none 0 0, .slice none 0 0, .slice none 0 0, .slice none 0 0, .slice none 0 0, .slice none 0 0, .slice none 0 0, .slice none 0 0] 38)).cell? ⟨w1.heap.size + 1, i, none⟩ = some (.slice none 0 0)) := fun i hi => by
    rw [← zg, World.cell?_alloc_at _ _ _ _ rfl]
    rcases (by omega : i = 0 ∨ i = 1 ∨ i = 2 ∨ i = 3 ∨ i = 4 ∨ i = 5 ∨ i = 6 ∨ i = 7 ∨ i = 8 ∨ i = 9) with rfl | rfl | rfl | rfl | rfl | rfl | rfl | rfl | rfl | rfl <;> rfl
  have hbf : Hid (∀ i, ((w1.alloc (.cells #[.slice none 0 0, .slice none 0 0, .slice none 0 0, .slice none 0 0, .slice none 0 0, .slice none 0 0, .slice none 0 0, .slice none 0 0, .slice none 0 0, .slice none 0 0] 30)).alloc (.cells #[.slice none 0 0, .slice none 0 0, .slice none 0 0, .slice none 0 0, .slice none 0 0, .slice none 0 0, .slice none 0 0, .slice none 0 0, .slice none 0 0, .slice none 0 0] 38)).frozen? ⟨w1.heap.size + 1, i, none⟩ = false) := fun i => by rw [← zg]; simp
  have UB2 : Hid (Upd (fun k => k ≠ w1.heap.size + 1) ((w1.alloc (.cells #[.slice none 0 0, .slice none 0 0, .slice none 0 0, .slice none 0 0, .slice none 0 0, .slice none 0 0, .slice none 0 0, .slice none 0 0, .slice none 0 0, .slice none 0 0] 30)).alloc (.cells #[.slice none 0 0, .slice none 0 0, .slice none 0 0, .slice none 0 0, .slice none 0 0, .slice none 0 0, .slice none 0 0, .slice none 0 0, .slice none 0 0, .slice none 0 0] 38)) ((w1.alloc (.cells #[.slice none 0 0, .slice none 0 0, .slice none 0 0, .slice none 0 0, .slice none 0 0, .slice none 0 0, .slice none 0 0, .slice none 0 0, .slice none 0 0, .slice none 0 0] 30)).alloc (.cells #[.slice none 0 0, .slice none 0 0, .slice none 0 0, .slice none 0 0, .slice none 0 0, .slice none 0 0, .slice none 0 0, .slice none 0 0, .slice none 0 0, .slice none 0 0] 38))) := Upd.refl _ _
  clear bA bB zg
  try dsimp only
  go_wp2_with fail
  generalize hw2 : ((w1.alloc (.cells #[.slice none 0 0, .slice none 0 0, .slice none 0 0, .slice none 0 0, .slice none 0 0, .slice none 0 0, .slice none 0 0, .slice none 0 0, .slice none 0 0, .slice none 0 0] 30)).alloc (.cells #[.slice none 0 0, .slice none 0 0, .slice none 0 0, .slice none 0 0, .slice none 0 0, .slice none 0 0, .slice none 0 0, .slice none 0 0, .slice none 0 0, .slice none 0 0] 38)) = w2 at *
  clear hw2
  have cg := hide (given_by (fun _ => .slice none 0 0) w1.heap.size (w1.heap.size + 2) (Value.slice none 0 0) (Value.slice none 0 0) [] [] a la.length ca la w2 GN.out ((HA.out.later E2.out).sl HCA.out) (by omega) (by simp) (by simp))
  try dsimp only
  go_wp2_with fail
  refine cg.out.mono ?_
  rintro e w3 ⟨g1, c1, va1, vb1, g1', c1', rfl, s1, hg1, G1', u1, nva, nvb⟩
  have hs1 : ∀ k, (k = w1.heap.size ∨ (Value.slice none 0 0).ownBlock = some k ∨ (Value.slice none 0 0).ownBlock = some k) → k ≠ w1.heap.size + 1 ∧ w1.heap.size ≤ k := fun k hk => by
    rcases hk with hk | hk | hk
    · omega
    · have := (GN.out.oa.blk k hk).1; omega
    · have := (GN.out.ob.blk k hk).1; omega
  have E3 : Hid (Below w.heap.size w w3) := E2.out.trans (u1.below E2.out.size (fun k hk => by have := (hs1 k hk).2; omega))
  have UB3 : Hid (Upd (fun k => k ≠ w1.heap.size + 1) w2 w3) := UB2.out.trans (u1.mono (fun k _ hk => (hs1 k hk).1))
  have G1 := hide G1'
  have z3 := u1.size
  clear cg s1 u1 nva nvb hs1 G1' GN
  have cg := hide (given_by (fun _ => .slice none 0 0) w1.heap.size (w1.heap.size + 2) va1 vb1 _ _ ab lb.length cb lb w3 G1.out ((HB.out.later E3.out).sl HCB.out) (by omega) (by simp) (by simp))
  try dsimp only
  go_wp2_with fail
  refine cg.out.mono ?_
  rintro e w4 ⟨g2, c2, va2, vb2, g2', c2', rfl, s2, hg2, G2', u2, nva, nvb⟩
  have hs2 : ∀ k, (k = w1.heap.size ∨ va1.ownBlock = some k ∨ vb1.ownBlock = some k) → k ≠ w1.heap.size + 1 ∧ w1.heap.size ≤ k := fun k hk => by
    rcases hk with hk | hk | hk
    · omega
    · have := (G1.out.oa.blk k hk).1; omega
    · have := (G1.out.ob.blk k hk).1; omega
  have E4 : Hid (Below w.heap.size w w4) := E3.out.trans (u2.below E3.out.size (fun k hk => by have := (hs2 k hk).2; omega))
  have UB4 : Hid (Upd (fun k => k ≠ w1.heap.size + 1) w2 w4) := UB3.out.trans (u2.mono (fun k _ hk => (hs2 k hk).1))
  have G2 := hide G2'
  have z4 := u2.size
  clear cg s2 u2 nva nvb hs2 G2' G1
  have cs := hide (refseal1_any a la.length ca la w4 (HA.out.later E4.out))
  try dsimp only
  go_wp2_with fail
  refine cs.out.mono ?_
  rintro e w5 ⟨a5, c5, rfl, o5, b5⟩
  have E5 : Hid (Below w.heap.size w w5) := E4.out.trans (b5.mono E4.out.size)
  have UB5 : Hid (Upd (fun k => k ≠ w1.heap.size + 1) w2 w5) := UB4.out.trans (Upd.of_below b5)
  have G2b := hide (G2.out.bel b5)
  have O5 := hide (o5.sl' kBy)
  have z5 := b5.size
  have hsl := sl_len la
  clear cs o5 b5 G2
  have cg := hide (given_by (fun _ => .slice none 0 0) w1.heap.size (w1.heap.size + 2) va2 vb2 _ _ a5 (sl la).length c5 (sl la) w5 G2b.out O5.out (by omega) (by simp) (by simp))
  try dsimp only
  go_wp2_with fail
  refine cg.out.mono ?_
  rintro e w6 ⟨g3, c3, va3, vb3, g3', c3', rfl, s3, hg3, G3', u3, nva, nvb⟩
  have hs3 : ∀ k, (k = w1.heap.size ∨ va2.ownBlock = some k ∨ vb2.ownBlock = some k) → k ≠ w1.heap.size + 1 ∧ w1.heap.size ≤ k := fun k hk => by
    rcases hk with hk | hk | hk
    · omega
    · have := (G2b.out.oa.blk k hk).1; omega
    · have := (G2b.out.ob.blk k hk).1; omega
  have E6 : Hid (Below w.heap.size w w6) := E5.out.trans (u3.below E5.out.size (fun k hk => by have := (hs3 k hk).2; omega))
  have UB6 : Hid (Upd (fun k => k ≠ w1.heap.size + 1) w2 w6) := UB5.out.trans (u3.mono (fun k _ hk => (hs3 k hk).1))
  have G3 := hide G3'
  have z6 := u3.size
  clear cg s3 u3 nva nvb hs3 G3' G2b
  have b7 : Below w6.heap.size w6 (w6.alloc (.cells #[.pointer none, .int .i64 0, .int .i64 0] 45)) := (Below.refl _ _).alloc (Nat.le_refl _) _
  have T0 : Wi.WOk (w6.alloc (.cells #[.pointer none, .int .i64 0, .int .i64 0] 45)) w6.heap.size [] := .inl ⟨rfl, ⟨by simp, by simp, by simp, by simp, by simp, by simp, by simp⟩⟩
  have E7 : Hid (Below w.heap.size w (w6.alloc (.cells #[.pointer none, .int .i64 0, .int .i64 0] 45))) := E6.out.trans (b7.mono E6.out.size)
  have k7 := Wi.conv_hs (w6.alloc (.cells #[.pointer none, .int .i64 0, .int .i64 0] 45)) a la.length ca la (HA.out.later E7.out)
  have ct := hide (wtext1_any w6.heap.size la (w6.alloc (.cells #[.pointer none, .int .i64 0, .int .i64 0] 45)) T0 hma hya.out)
  have B7 := hide b7
  clear b7 T0 O5
  try dsimp only
  go_wp2_with fail
  refine ct.out.mono ?_
  rintro e w8 ⟨rfl, T8, b8⟩
  have b68 : Below w6.heap.size w6 w8 := B7.out.trans b8
  have E8 : Hid (Below w.heap.size w w8) := E6.out.trans (b68.mono E6.out.size)
  have UB8 : Hid (Upd (fun k => k ≠ w1.heap.size + 1) w2 w8) := UB6.out.trans (Upd.of_below b68)
  have G8 := hide (G3.out.bel b68)
  have z8 := b68.size
  have hb8 : w1.heap.size + 1 < w8.heap.size := by omega
  have BN := hide (B1.of w8.heap.size w8 (w1.heap.size + 1) hb8 (fun i hi => (UB8.out.cell (p := ⟨w1.heap.size + 1, i, none⟩) (by show w1.heap.size + 1 < _; omega) (fun h => h rfl)).trans (hbc.out i hi)) (fun i => (UB8.out.frozen (p := ⟨w1.heap.size + 1, i, none⟩) (by show w1.heap.size + 1 < _; omega) (fun h => h rfl)).trans (hbf.out i)))
  have HWR : Hid (∀ v, Upd (· = w1.heap.size + 1) w8 v → Wi.WOk v w6.heap.size (tx la)) := fun v u => T8.upd u (by omega)
  have HGY : Hid (∀ v, Upd (· = w1.heap.size + 1) w8 v → GY yBy zByB 0 (fun _ => .slice none 0 0) v w1.heap.size (w1.heap.size + 2) va3 vb3 _ _) := fun v u => G8.out.besides u (by omega) (by omega)
  have HX : Hid (∀ v, Upd (· = w1.heap.size + 1) w8 v → Wi.Hs v (some ⟨g1, 0, none⟩) la.length c1 la ∧ Wi.Hs v (some ⟨g2, 0, none⟩) lb.length c2 lb ∧ Wi.Hs v (some ⟨g3, 0, none⟩) (sl la).length c3 (sl la)) := fun v u => ⟨(((HGY.out v u).da ⟨some ⟨g1, 0, none⟩, c1, la ++ [90]⟩ ((List.mem_append_left _ (List.mem_append_left _ (List.mem_append_right _ (List.mem_singleton_self _)))))).front kBy rfl).hs hya.out, (((HGY.out v u).da ⟨some ⟨g2, 0, none⟩, c2, lb ++ [90]⟩ ((List.mem_append_left _ (List.mem_append_right _ (List.mem_singleton_self _))))).front kBy rfl).hs hyb.out, (((HGY.out v u).da ⟨some ⟨g3, 0, none⟩, c3, sl la ++ [90]⟩ ((List.mem_append_right _ (List.mem_singleton_self _)))).front kBy rfl).hs (sl_byte la hya.out)⟩
  have hq1 := (HX.out w8 (Upd.refl _ _)).1.cap
  have hq2 := (HX.out w8 (Upd.refl _ _)).2.1.cap
  have hq3 := (HX.out w8 (Upd.refl _ _)).2.2.cap
  obtain ⟨ht0, ht1⟩ := tx_len la hma
  clear ct k7 b8 b68 T8 B7 G3 G8 hbc hbf UB2 UB3 UB4 UB5 UB6 UB8 E1 E2 E3 E4 E5 E6 E7
  try dsimp only
  go_wp2_with fail
  go_loopw [13] (fun i wr => ∃ i0 : Nat, i = .int .i64 (i0 : Int) ∧ i0 ≤ 3 ∧ Hid (Upd (· = w1.heap.size + 1) w8 wr) ∧ ∃ v V, Hid (B1 wr (w1.heap.size + 1) w8.heap.size w8.heap.size v V) ∧ Hid (V.length ≤ 3 * i0)) (fun i _ => 3 - (intOf i).toNat)
  case atStart => exact ⟨0, rfl, by omega, Upd.refl _ _, _, _, BN, Nat.le_refl _⟩
  case round =>
    obtain ⟨i0, rfl, hi0, hu, v, V, HG, hVl'⟩ := hrel
    have hVl : V.length ≤ 3 * i0 := hVl'.out
    have zr := hu.out.size
    clear hVl' BN
    by_cases hlt : i0 < 3
    · by_cases h1 : i0 = 1
      · subst h1
        have cs := hide (seal1_any (some ⟨g2, 0, none⟩) lb.length c2 lb wr (HX.out wr hu.out).2.1)
        go_wp2_with fail
        refine cs.out.mono ?_
        rintro e w9 ⟨a9, c9, rfl, o9, b9⟩
        have P9 := hide ((Pn.nil yBy (fun g => g = w1.heap.size + 1) wr.heap.size wr).snoc b9 (Nat.le_refl _) o9 (by have := sl_len lb; omega) (fun g hg e => by omega))
        have U9 : Hid (Upd (· = w1.heap.size + 1) w8 w9) := hu.out.trans (Upd.of_below b9)
        have D9 : Hid (Below wr.heap.size wr w9) := b9
        have z9 := b9.size
        clear cs o9 b9
        have cs := hide (open1_any (some ⟨g3, 0, none⟩) (sl la).length c3 (sl la) w9 (HX.out w9 U9.out).2.2)
        try dsimp only
        go_wp2_with fail
        refine cs.out.mono ?_
        rintro e w10 ⟨a10, c10, rfl, o10, b10⟩
        have P10 := hide (P9.out.snoc b10 z9 o10 (by have := opBody_le (sl la); omega) (fun g hg e => by omega))
        have U10 : Hid (Upd (· = w1.heap.size + 1) w8 w10) := U9.out.trans (Upd.of_below b10)
        have D10 : Hid (Below wr.heap.size wr w10) := D9.out.trans (b10.mono z9)
        have z10 := D10.out.size
        clear cs o10 b10 P9 U9 D9
        have cs := hide (bytes1_any w6.heap.size (tx la) w10 (HWR.out w10 U10.out) (by omega))
        try dsimp only
        go_wp2_with fail
        refine cs.out.mono ?_
        rintro e w11 ⟨a11, c11, rfl, o11, b11⟩
        have P11 := hide (P10.out.snoc b11 z10 o11 (by omega) (fun g hg e => by omega))
        have U11 : Hid (Upd (· = w1.heap.size + 1) w8 w11) := U10.out.trans (Upd.of_below b11)
        have D11 : Hid (Below wr.heap.size wr w11) := D10.out.trans (b11.mono z10)
        have G11 : Hid (BB w11 (w1.heap.size + 1) w8.heap.size w8.heap.size v V [⟨a9, c9, sl lb⟩, ⟨a10, c10, Wi.opBody (sl la)⟩, ⟨a11, c11, tx la⟩]) := BB.of HG.out D11.out P11.out zr
        clear cs o11 b11 P10 U10 D10 P11 D11 z9 z10
        have cs := hide (BB.book (x := ⟨a9, c9, sl lb⟩) G11.out (by omega))
        dsimp only at cs
        try dsimp only
        go_wp2_with fail
        refine cs.out.mono ?_
        rintro e w12 ⟨rfl, v12, V12, g12', q12, u12⟩
        have U12 : Hid (Upd (· = w1.heap.size + 1) w8 w12) := U11.out.tr u12 (fun i hi hs => by omega)
        have G12 := hide g12'
        clear cs g12' u12 G11 U11
        have cs := hide (BB.book (x := ⟨a10, c10, Wi.opBody (sl la)⟩) G12.out (by omega))
        dsimp only at cs
        try dsimp only
        go_wp2_with fail
        refine cs.out.mono ?_
        rintro e w13 ⟨rfl, v13, V13, g13', q13, u13⟩
        have U13 : Hid (Upd (· = w1.heap.size + 1) w8 w13) := U12.out.tr u13 (fun i hi hs => by omega)
        have G13 := hide g13'
        clear cs g13' u13 G12 U12
        have cs := hide (BB.book (x := ⟨a11, c11, tx la⟩) G13.out (by omega))
        dsimp only at cs
        try dsimp only
        go_wp2_with fail
        refine cs.out.mono ?_
        rintro e w14 ⟨rfl, v14, V14, g14', q14, u14⟩
        have U14 : Hid (Upd (· = w1.heap.size + 1) w8 w14) := U13.out.tr u14 (fun i hi hs => by omega)
        have G14 := hide g14'
        clear cs g14' u14 G13 U13
        have HG14 : Hid (B1 w14 (w1.heap.size + 1) w8.heap.size w8.heap.size v14 V14) := G14.out.k
        have hV14 : Hid (V14.length ≤ 3 * (2)) := by show _ ≤ _; omega
        clear G14
        try dsimp only
        go_wp2
        go_round
        case rel => exact ⟨2, by go_num, by omega, U14, _, _, HG14, hV14⟩
        case measure => first | (simp [intOf]; done) | (simp [intOf]; omega)
      · have h2 : ((i0 : Int) == 1) = false := by simp; omega
        have h3 : ¬ (i0 : Int) = 1 := by omega
        have cs := hide (seal1_any (some ⟨g1, 0, none⟩) la.length c1 la wr (HX.out wr hu.out).1)
        go_wp2_with fail
        refine cs.out.mono ?_
        rintro e w9 ⟨a9, c9, rfl, o9, b9⟩
        have P9 := hide ((Pn.nil yBy (fun g => g = w1.heap.size + 1) wr.heap.size wr).snoc b9 (Nat.le_refl _) o9 (by have := sl_len la; omega) (fun g hg e => by omega))
        have U9 : Hid (Upd (· = w1.heap.size + 1) w8 w9) := hu.out.trans (Upd.of_below b9)
        have D9 : Hid (Below wr.heap.size wr w9) := b9
        have z9 := b9.size
        clear cs o9 b9
        have cs := hide (open1_any (some ⟨g3, 0, none⟩) (sl la).length c3 (sl la) w9 (HX.out w9 U9.out).2.2)
        try dsimp only
        go_wp2_with fail
        refine cs.out.mono ?_
        rintro e w10 ⟨a10, c10, rfl, o10, b10⟩
        have P10 := hide (P9.out.snoc b10 z9 o10 (by have := opBody_le (sl la); omega) (fun g hg e => by omega))
        have U10 : Hid (Upd (· = w1.heap.size + 1) w8 w10) := U9.out.trans (Upd.of_below b10)
        have D10 : Hid (Below wr.heap.size wr w10) := D9.out.trans (b10.mono z9)
        have z10 := D10.out.size
        clear cs o10 b10 P9 U9 D9
        have cs := hide (bytes1_any w6.heap.size (tx la) w10 (HWR.out w10 U10.out) (by omega))
        try dsimp only
        go_wp2_with fail
        refine cs.out.mono ?_
        rintro e w11 ⟨a11, c11, rfl, o11, b11⟩
        have P11 := hide (P10.out.snoc b11 z10 o11 (by omega) (fun g hg e => by omega))
        have U11 : Hid (Upd (· = w1.heap.size + 1) w8 w11) := U10.out.trans (Upd.of_below b11)
        have D11 : Hid (Below wr.heap.size wr w11) := D10.out.trans (b11.mono z10)
        have G11 : Hid (BB w11 (w1.heap.size + 1) w8.heap.size w8.heap.size v V [⟨a9, c9, sl la⟩, ⟨a10, c10, Wi.opBody (sl la)⟩, ⟨a11, c11, tx la⟩]) := BB.of HG.out D11.out P11.out zr
        clear cs o11 b11 P10 U10 D10 P11 D11 z9 z10
        have cs := hide (BB.book (x := ⟨a9, c9, sl la⟩) G11.out (by omega))
        dsimp only at cs
        try dsimp only
        go_wp2_with fail
        refine cs.out.mono ?_
        rintro e w12 ⟨rfl, v12, V12, g12', q12, u12⟩
        have U12 : Hid (Upd (· = w1.heap.size + 1) w8 w12) := U11.out.tr u12 (fun i hi hs => by omega)
        have G12 := hide g12'
        clear cs g12' u12 G11 U11
        have cs := hide (BB.book (x := ⟨a10, c10, Wi.opBody (sl la)⟩) G12.out (by omega))
        dsimp only at cs
        try dsimp only
        go_wp2_with fail
        refine cs.out.mono ?_
        rintro e w13 ⟨rfl, v13, V13, g13', q13, u13⟩
        have U13 : Hid (Upd (· = w1.heap.size + 1) w8 w13) := U12.out.tr u13 (fun i hi hs => by omega)
        have G13 := hide g13'
        clear cs g13' u13 G12 U12
        have cs := hide (BB.book (x := ⟨a11, c11, tx la⟩) G13.out (by omega))
        dsimp only at cs
        try dsimp only
        go_wp2_with fail
        refine cs.out.mono ?_
        rintro e w14 ⟨rfl, v14, V14, g14', q14, u14⟩
        have U14 : Hid (Upd (· = w1.heap.size + 1) w8 w14) := U13.out.tr u14 (fun i hi hs => by omega)
        have G14 := hide g14'
        clear cs g14' u14 G13 U13
        have HG14 : Hid (B1 w14 (w1.heap.size + 1) w8.heap.size w8.heap.size v14 V14) := G14.out.k
        have hV14 : Hid (V14.length ≤ 3 * (i0 + 1)) := by show _ ≤ _; omega
        clear G14
        try dsimp only
        go_wp2
        go_round
        case rel => exact ⟨i0 + 1, by go_num, by omega, U14, _, _, HG14, hV14⟩
        case measure => first | (simp [intOf]; done) | (simp [intOf]; omega)
    · obtain rfl : i0 = 3 := by omega
      have cp := hide (apart_b1 (w1.heap.size + 1) w8.heap.size w8.heap.size v V wr HG.out (by omega))
      go_wp2_with fail
      refine cp.out.mono ?_
      rintro e w15 ⟨rfl, u15⟩
      have U15 : Hid (Upd (· = w1.heap.size + 1) w8 w15) := hu.out.tr u15 (fun i hi hs => by omega)
      clear cp u15 HG hu
      have ci := hide (intactBy_any w1.heap.size (w1.heap.size + 2) va3 vb3 _ _ w15 (HGY.out w15 U15.out) rfl (fun x hx => by
        simp only [List.nil_append, List.append_assoc, List.cons_append, List.mem_cons, List.not_mem_nil, or_false] at hx
        rcases hx with rfl | rfl | rfl
        · exact by90 la hya.out
        · exact by90 lb hyb.out
        · exact by90 (sl la) (sl_byte la hya.out)))
      try dsimp only
      go_wp2_with fail
      refine ci.out.mono ?_
      rintro e w16 ⟨rfl, kk, hw16⟩
      have U16 : Hid (Upd (· = w1.heap.size + 1) w8 w16) := U15.out.trans (Upd.of_below (by rw [hw16]; exact belN (Below.refl _ _) kk))
      clear ci hw16 U15
      have E16 : Hid (Below w.heap.size w w16) := E8.out.trans (U16.out.below E8.out.size (fun k hk => by have hk : k = w1.heap.size + 1 := hk; omega))
      have k16 := Wi.conv_hs w16 a la.length ca la (HA.out.later E16.out)
      have cw := hide (refwrite1_any la w16 hma hya.out)
      have E16s := E16.out.size
      try dsimp only
      go_wp2_with fail
      refine cw.out.mono ?_
      rintro e w18 ⟨a18, c18, rfl, o18, b18⟩
      have O18 := hide o18
      have E18 : Hid (Below w.heap.size w w18) := E16.out.trans (b18.mono E16s)
      have U18 : Hid (Upd (· = w1.heap.size + 1) w8 w18) := U16.out.trans (Upd.of_below b18)
      clear cw o18 b18 k16 U16
      have cs := hide (bytes1_any w6.heap.size (tx la) w18 (HWR.out w18 U18.out) (by omega))
      try dsimp only
      go_wp2_with fail
      refine cs.out.mono ?_
      rintro e w19 ⟨a19, c19, rfl, o19, b19⟩
      have O19 := hide o19
      have P18 := hide (O18.out.grow b19)
      have E19 : Hid (Below w.heap.size w w19) := E18.out.trans (b19.mono E18.out.size)
      clear cs o19 b19 O18
      have hty := hide (tx_byte la hma hya.out)
      have cm := hide (Wi.same_any a19 a18 (tx la).length c19 (tx la).length c18 (tx la) (tx la) w19 (O19.out.hs hty.out) (P18.out.hs hty.out))
      rw [decide_eq_true (rfl : tx la = tx la)] at cm
      try dsimp only
      go_wp2_with fail
      refine cm.out.mono ?_
      rintro e w20 ⟨rfl, hw20⟩
      have hw20 := hw20.symm
      subst hw20
      clear cm O19
      have cc := hide (copyby_any a18 (tx la).length c18 (tx la) w19 (P18.out.sl' kBy) (by omega))
      try dsimp only
      go_wp2_with fail
      refine cc.out.mono ?_
      rintro e w20 ⟨v20, rfl, o20, b20⟩
      obtain ⟨a20, c20, rfl, q1, q2, q3, q4⟩ := o20.form
      obtain ⟨gc, hgc⟩ : ∃ gc, a20 = some ⟨gc, 0, none⟩ := by
        cases a20 with
        | none => have := (q3 rfl).1; rw [this] at ht0; simp at ht0
        | some x => obtain ⟨g, rfl, _⟩ := q4 x rfl; exact ⟨g, rfl⟩
      subst hgc
      have O20 := hide o20
      have E20 : Hid (Below w.heap.size w w20) := E19.out.trans (b20.mono E19.out.size)
      have hgc1 := o20.blk gc rfl
      have zz20 := E19.out.size
      unfold maxLen at q2
      clear cc o20 b20 q3 q4 P18
      have cr := hide (newreader1_any (some ⟨gc, 0, none⟩) (tx la).length c20 (tx la) w20 (O20.out.hs hty.out) (by omega))
      try dsimp only
      go_wp2_with fail
      refine cr.out.mono ?_
      rintro e w21 ⟨r, a21, c21, rfl, r21, hr1, hr2, b21⟩
      have R21 := hide r21
      have HR2 := hide hr2
      have O21 := hide (O20.out.grow b21)
      have E21 : Hid (Below w.heap.size w w21) := E20.out.trans (b21.mono E20.out.size)
      have z21 := b21.size
      clear cr r21 hr2 b21 O20
      have cu := hide (Wi.sum_hs (some ⟨gc, 0, none⟩) (tx la).length c20 (tx la) w21 (O21.out.hs hty.out) (by unfold maxLen; omega))
      try dsimp only
      go_wp2_with fail
      refine cu.out.mono ?_
      rintro e w22 ⟨rfl, hw22⟩
      have hw22 := hw22.symm
      subst hw22
      clear cu
      have cs := hide (seal1_any (some ⟨gc, 0, none⟩) (tx la).length c20 (tx la) w21 (O21.out.hs hty.out))
      try dsimp only
      go_wp2_with fail
      refine cs.out.mono ?_
      rintro e w22 ⟨a22, c22, rfl, _, b22⟩
      have O22 := hide (O21.out.grow b22)
      have E22 : Hid (Below w.heap.size w w22) := E21.out.trans (b22.mono E21.out.size)
      have R22 : Hid (Wi.RSt w22 r a21 (tx la).length c21 (tx la) 0 0) := R21.out.upd1 (S := fun _ => False) (Upd.of_below b22) id (fun _ _ => id)
      have hrl := R22.out.lt
      clear cs b22 O21 R21
      generalize hTn : (tx la).length = n at *
      have HTN := hide hTn
      clear hTn
      try dsimp only
      go_wp2_with fail
      go_loopw [27] (fun i wr => ∃ (j : Nat) (C : List Int), i = .int .i64 (j : Int) ∧ j ≤ n ∧ Hid (C.length = n) ∧ Hid (∀ z ∈ C, 0 ≤ z ∧ z < 256) ∧ Hid (OwnY yBy w19.heap.size wr (.slice (some ⟨gc, 0, none⟩) n c20) C) ∧ Hid (Upd (· = gc) w22 wr)) (fun i _ => n - (intOf i).toNat)
      case atStart => exact ⟨0, tx la, rfl, Nat.zero_le _, HTN, hty, O22, Upd.refl _ _⟩
      case round =>
        obtain ⟨j, C, rfl, hj, hCl, hCb, OC, UC⟩ := hrel
        by_cases hlt2 : j < n
        · obtain ⟨x0, hx0⟩ : ∃ x0, C[j]? = some x0 := ⟨_, List.getElem?_eq_getElem (by rw [hCl.out]; exact hlt2)⟩
          have k0 := OC.out.rwBy hx0
          have HX0 := hide hx0
          have hx1 := hCb.out x0 (List.mem_of_getElem? hx0)
          have hxor := xor85_byte x0 hx1.1 hx1.2
          have hCl2 : Hid ((C.set j (bits .xor .u8 x0 85)).length = n) := (List.length_set).trans hCl.out
          have hCb2 : Hid (∀ z ∈ C.set j (bits .xor .u8 x0 85), 0 ≤ z ∧ z < 256) := fun z hz => by
            rcases List.mem_or_eq_of_mem_set hz with hz | rfl
            · exact hCb.out z hz
            · exact hxor
          clear hx0 hxor
          go_wp2_with (refine storeY kBy _ rfl 5 (.tmp 125) (.tmp 124) rfl w19.heap.size gc n c20 C j 0 x0 (bits .xor .u8 x0 85) _ (by rw [show j * yBy.k + 0 = j from Nat.mul_one j]; rfl) rfl HX0.out (by kernel_rfl) (by exact (by decide : 1 ≤ 1)) rfl OC.out ?_; intro w23 o23 u23 z23)
          have O23 := hide o23
          have U23 : Hid (Upd (· = gc) w22 w23) := UC.out.trans u23
          clear o23 u23
          go_wp2
          go_round
          case rel => exact ⟨j + 1, _, by go_num, by omega, hCl2, hCb2, O23, U23⟩
          case measure => first | (simp [intOf]; done) | (simp [intOf]; omega)
        · obtain rfl : j = n := by omega
          obtain ⟨w23, hw23⟩ : ∃ w23, w23 = wr := ⟨_, rfl⟩
          rw [← hw23] at OC UC ⊢
          clear hw23
          have E23 : Hid (Below w.heap.size w w23) := E22.out.trans (UC.out.below E22.out.size (fun k hk => by have hk : k = gc := hk; omega))
          have R23 : Hid (Wi.RSt w23 r a21 j c21 (tx la) 0 0) := R22.out.upd1 UC.out (by omega) (fun x hx e => by have := HR2.out x hx; have e : x.block = gc := e; omega)
          have z23 := UC.out.size
          clear R22 UC O22
          have cs := hide (seal1_any (some ⟨gc, 0, none⟩) j c20 C w23 (OC.out.hs hCb.out))
          go_wp2_with fail
          refine cs.out.mono ?_
          rintro e w24 ⟨a24, c24, rfl, o24, b24⟩
          have O24 := hide o24
          have C24 := hide (OC.out.grow b24)
          have R24 : Hid (Wi.RSt w24 r a21 j c21 (tx la) 0 0) := R23.out.upd1 (S := fun _ => False) (Upd.of_below b24) id (fun _ _ => id)
          have E24 : Hid (Below w.heap.size w w24) := E23.out.trans (b24.mono E23.out.size)
          have z24 := b24.size
          clear cs o24 b24 R23 OC
          have cs := hide (refseal1_any (some ⟨gc, 0, none⟩) j c20 C w24 (C24.out.hs hCb.out))
          try dsimp only
          go_wp2_with fail
          refine cs.out.mono ?_
          rintro e w25 ⟨a25, c25, rfl, o25, b25⟩
          have O25 := hide o25
          have P24 := hide (O24.out.grow b25)
          have C25 := hide (C24.out.grow b25)
          have R25 : Hid (Wi.RSt w25 r a21 j c21 (tx la) 0 0) := R24.out.upd1 (S := fun _ => False) (Upd.of_below b25) id (fun _ _ => id)
          have E25 : Hid (Below w.heap.size w w25) := E24.out.trans (b25.mono E24.out.size)
          have z25 := b25.size
          clear cs o25 b25 R24 O24 C24
          have hzb := hide (sl_byte C hCb.out)
          have hr25 : w.heap.size ≤ r ∧ r < w25.heap.size := ⟨by have := E20.out.size; omega, R25.out.lt⟩
          have hkeep : ∀ {B' : Nat} {v' : Value} {l : List Int}, OwnY yBy B' w25 v' l → (∀ g, v'.ownBlock = some g → g ≠ r) → ∀ v, Upd (· = r) w25 v → OwnY yBy B' v v' l := fun h hn v u => h.upd1 u (fun g hg e => hn g hg e)
          have KA : Hid (∀ v, Upd (· = r) w25 v → (convert 22 9 (.slice a la.length ca)).run Try.prog v = .ok (.string (strOfNums la)) v) := fun v u => Wi.conv_hs v a la.length ca la (HA.out.later (E25.out.trans (u.below E25.out.size (fun k hk => by have hk : k = r := hk; omega))))
          have KC : Hid (∀ v, Upd (· = r) w25 v → Wi.Hs v (some ⟨gc, 0, none⟩) j c20 C) := fun v u => (hkeep C25.out (fun g hg e => by have hg : some gc = some g := hg; cases hg; omega) v u).hs hCb.out
          have KS : Hid (∀ v, Upd (· = r) w25 v → Wi.Hs v a24 (sl C).length c24 (sl C)) := fun v u => (hkeep P24.out (fun g hg e => by have := (P24.out.blk g hg).1; omega) v u).hs hzb.out
          have KT : Hid (∀ v, Upd (· = r) w25 v → Wi.Hs v a25 (sl C).length c25 (sl C)) := fun v u => (hkeep O25.out (fun g hg e => by have := (O25.out.blk g hg).1; omega) v u).hs hzb.out
          have KR : Hid (∀ v, Below w25.heap.size w25 v → Wi.RSt v r a21 (tx la).length c21 (tx la) 0 0) := fun v b => by
            rw [HTN.out]
            exact R25.out.upd1 (S := fun _ => False) (Upd.of_below b) id (fun _ _ => id)
          clear hkeep C25 P24 O25 R25
          have bd := (Below.refl w25.heap.size w25).drew
          have U0 : Hid (Upd (· = r) w25 w25.drew) := Upd.of_below bd
          have k0 := KA.out _ U0.out
          have ctx := hide (rtext1_any r a21 c21 la w25.drew hma (KR.out _ bd))
          try dsimp only
          go_wp2_with fail
          go_region_held3 (fun v => (convert 22 9 (.slice a la.length ca)).run Try.prog v = .ok (.string (strOfNums la)) v) (first | with_reducible assumption | go_keep)
            (first
              | (have := U30; go_at_call 15; refine (Wi.same_any a24 a25 (sl C).length c24 (sl C).length c25 (sl C) (sl C) _ (KS.out _ U30.out) (KT.out _ U30.out)).mono ?_; rintro e w31 ⟨rfl, rfl⟩)
              | (have := U30; go_at_call 20; refine (num1_any _ _).mono ?_; rintro e w31 ⟨rfl, rfl⟩)
              | (have := U30; go_at_call 22; refine (Wi.refsum_any ⟨gc, 0, none⟩ j c20 C _ hCl.out (by unfold maxLen; omega) ((KC.out _ U30.out).row _ rfl) hCb.out).mono ?_; rintro e w31 ⟨rfl, rfl⟩)
              | (have := U30; go_at_call 18; refine (Wi.sum_hs (some ⟨gc, 0, none⟩) j c20 C _ (KC.out _ U30.out) (by unfold maxLen; omega)).mono ?_; rintro e w31 ⟨rfl, rfl⟩)
              | (have := R27; go_at_call 21; refine (rend1_any r a21 c21 (tx la) _ R27.out).mono ?_; rintro e w30 ⟨rfl, b30⟩; have U30 : Hid (Upd (· = r) w25 w30) := U27.out.trans (Upd.of_below b30); have k30 := KA.out _ U30.out; clear b30)
              | (go_at_call 19; refine ctx.out.mono ?_; rintro e w27 ⟨rfl, r27, u27⟩; have R27 := hide r27; have U27 : Hid (Upd (· = r) w25 w27) := U0.out.trans u27; have k27 := KA.out _ U27.out; clear r27 u27))
          go_wp2
          go_ret
          exact ⟨rfl, E25.out.trans (U30.out.below E25.out.size (fun k hk => by have hk : k = r := hk; omega))⟩

end Go.Proofs.Ytegkkoggfjgkbaa
