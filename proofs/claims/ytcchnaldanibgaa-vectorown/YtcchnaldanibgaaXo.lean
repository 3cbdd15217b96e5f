import Derived.Test.YtcchnaldanibgaaXn
import Derived.Test.YtcchnaldanibgaaVy
import Derived.Test.YtcchnaldanibgaaVt
import Derived.Test.YtcchnaldanibgaaVs
import Derived.Test.YtcchnaldanibgaaUc
namespace Go.Proofs.Ytcchnaldanibgaa
open Go.RowKit
set_option linter.unusedVariables false
set_option linter.unusedSimpArgs false

theorem Upd.trans29 {S T : Nat → Prop} {a b c : World} (h : Upd S a b) (k : Upd T b c) (hs : ∀ i, i < a.heap.size → T i → S i) : Upd S a c :=
  ⟨k.os.trans h.os, k.tape.trans h.tape, k.output.trans h.output, Nat.le_trans h.size k.size, fun i hi hn => (k.block i (Nat.lt_of_lt_of_le hi h.size) (fun ht => hn (hs i hi ht))).trans (h.block i hi hn)⟩
theorem SlN.updN {w w' : World} {g n c b : Nat} {D : List (Int × Int)} (h : SlN w (some ⟨g, 0, none⟩) n c D) (u : Upd (· = b) w w') (hg : g ≠ b) : SlN w' (some ⟨g, 0, none⟩) n c D :=
  ⟨h.1, h.2.upd u (fun x hx _ e => by cases hx; exact hg e)⟩
/-- A book that holds nothing yet, beside which other blocks have changed. -/
theorem BX.lift0 {w w' : World} {b B B' : Nat} (G : BX w b B (.slice none 0 0) (.slice none 0 0) [] []) (u : Upd (fun k => k ≠ b) w w') (hb : b < B') (hB : B' ≤ w'.heap.size) : BX w' b B' (.slice none 0 0) (.slice none 0 0) [] [] := by
  have hlt : b < w.heap.size := Nat.lt_of_lt_of_le G.lt G.ltB
  exact ⟨hb, hB, fun i hi => (u.cell (p := ⟨b, i, none⟩) hlt (fun h => h rfl)).trans (G.nils i hi), (u.cell (p := ⟨b, 1, none⟩) hlt (fun h => h rfl)).trans G.c1, (u.cell (p := ⟨b, 2, none⟩) hlt (fun h => h rfl)).trans G.c2, (u.frozen (p := ⟨b, 1, none⟩) hlt (fun h => h rfl)).trans G.f1, (u.frozen (p := ⟨b, 2, none⟩) hlt (fun h => h rfl)).trans G.f2, OwnVJ.nil _ _, OwnV.nil _ _, (fun p hp => by cases hp), (fun p hp => by cases hp), (fun i j x y hx => by cases hx), (fun i j x y hx => by cases hx)⟩
theorem belV {B : Nat} {w w' : World} (h : Below B w w') (n : Nat) : Below B w (w'.drewN n) := ⟨h.os, h.tape, h.output, h.size, h.block⟩
theorem newD_le (n : Int) : (newD n).length ≤ 7 := by
  unfold newD
  split
  · rw [List.length_replicate]; omega
  · simp
theorem setD_le (D : List (Int × Int)) (k : Int) (d : Int × Int) : (setD D k d).length ≤ 7 := by
  unfold setD
  split
  · split
    · rw [List.length_set]; omega
    · simp
  · simp
theorem OwnJ.nil (B : Nat) (w : World) : OwnJ B w (.slice none 0 0) [] := World.ownsRow_nil w B 3 1
theorem OwnD.any {B : Nat} {w : World} {a : Option Addr} {n c : Nat} {D : List (Int × Int)} (h : OwnD B w (.slice a n c) D) : SlN w a n c D := by
  obtain ⟨a', c', hs, _⟩ := h.sl
  have hf := hs.form
  have hl := h.len
  injection hf with h1 h2 h3
  subst h1 h3
  subst hl
  exact ⟨rfl, hs⟩
theorem mgD_le (L : List (List (Int × Int))) : (mgD L).length ≤ 7 := by
  unfold mgD
  split
  · rename_i h
    match L, h with
    | [], _ => simp
    | M :: T, h => show (mer M T).length ≤ 7; rw [mer_length]; exact ((okB_iff _).1 h).1.2
  · simp
set_option maxRecDepth 100000 in
set_option maxHeartbeats 8000000 in
theorem own3_walk (A B : List (Int × Int)) (a ab : Option Addr) (ca cb : Nat) (nd dx dy : Int) (w : World) (hA : SlN w a A.length ca A) (hB : SlN w ab B.length cb B) (hma : A.length * 16 ≤ 140737488351232) (hmb : B.length * 16 ≤ 140737488351232) :
    Calls Try.prog 9 #[.slice a A.length ca, .slice ab B.length cb, .int .i64 nd, .agg #[.int .u64 dx, .int .u64 dy]] w fun e w' => e = .returned (.bool true) ∧ Below w.heap.size w w' := by
  have HA := hide hA
  have HB := hide hB
  clear hA hB
  have B0 : Hid (Below w.heap.size w (w.alloc (.cells #[.int .u64 dx, .int .u64 dy] 26))) := (Below.refl _ w).alloc (Nat.le_refl _) _
  have hwz : Hid ((w.alloc (.cells #[.int .u64 dx, .int .u64 dy] 26)).heap.size = w.heap.size + 1) := by show _ = _; simp
  have KD0 : Hid ((w.alloc (.cells #[.int .u64 dx, .int .u64 dy] 26)).cell? ⟨w.heap.size, 0, none⟩ = some (.int .u64 dx) ∧ (w.alloc (.cells #[.int .u64 dx, .int .u64 dy] 26)).cell? ⟨w.heap.size, 1, none⟩ = some (.int .u64 dy)) := ⟨by go_simp, by go_simp⟩
  go_enter Try.func9, Try.ntmps9
  go_wp2_with fail
  refine (alive_true _).mono ?_
  rintro e w1 ⟨rfl, b1⟩
  rw [hwz.out] at b1
  have D1 := hide b1
  have z1 : w.heap.size + 1 ≤ w1.heap.size := by have := b1.size; rwa [hwz.out] at this
  clear b1
  generalize (w.alloc (.cells #[.int .u64 dx, .int .u64 dy] 26)) = w0 at *
  have bA := (Below.refl w1.heap.size w1).alloc (Nat.le_refl _) (.cells #[.slice none 0 0, .slice none 0 0, .slice none 0 0, .slice none 0 0, .slice none 0 0, .slice none 0 0, .slice none 0 0, .slice none 0 0, .slice none 0 0, .slice none 0 0] 33)
  have bB := (Below.refl (w1.heap.size + 1) (w1.alloc (.cells #[.slice none 0 0, .slice none 0 0, .slice none 0 0, .slice none 0 0, .slice none 0 0, .slice none 0 0, .slice none 0 0, .slice none 0 0, .slice none 0 0, .slice none 0 0] 33))).alloc (by simp) (.cells #[.slice none 0 0, .slice none 0 0, .slice none 0 0, .slice none 0 0, .slice none 0 0, .slice none 0 0, .slice none 0 0, .slice none 0 0, .slice none 0 0, .slice none 0 0] 81)
  have D2 : Hid (Below (w.heap.size + 1) w0 ((w1.alloc (.cells #[.slice none 0 0, .slice none 0 0, .slice none 0 0, .slice none 0 0, .slice none 0 0, .slice none 0 0, .slice none 0 0, .slice none 0 0, .slice none 0 0, .slice none 0 0] 33)).alloc (.cells #[.slice none 0 0, .slice none 0 0, .slice none 0 0, .slice none 0 0, .slice none 0 0, .slice none 0 0, .slice none 0 0, .slice none 0 0, .slice none 0 0, .slice none 0 0] 81))) := D1.out.trans ((bA.mono z1).trans (bB.mono (by omega)))
  have GN := ((GX.new w1 33).bel (by have := bB; rw [← World.size_alloc w1 (.cells #[.slice none 0 0, .slice none 0 0, .slice none 0 0, .slice none 0 0, .slice none 0 0, .slice none 0 0, .slice none 0 0, .slice none 0 0, .slice none 0 0, .slice none 0 0] 33)] at this; exact this)).raise (B' := w1.heap.size + 2) (by omega) (by simp)
  have BN := BX.new (w1.alloc (.cells #[.slice none 0 0, .slice none 0 0, .slice none 0 0, .slice none 0 0, .slice none 0 0, .slice none 0 0, .slice none 0 0, .slice none 0 0, .slice none 0 0, .slice none 0 0] 33)) 81
  rw [World.size_alloc] at BN
  have BNH := hide BN
  have cg1 := hide (given_vec w1.heap.size (w1.heap.size + 2) _ _ [] [] a A.length ca A _ GN (HA.out.bel (B0.out.trans (D2.out.mono (by omega)))) hma (by simp) rfl)
  clear bA bB GN BN
  try dsimp only
  go_wp2_with fail
  refine cg1.out.mono ?_
  rintro e w3 ⟨g1, c1, va, vb, g5, k5, rfl, s1, hg1, G1, U1, nva, nvb⟩
  have z3 := U1.size
  simp only [World.size_alloc] at z3 hg1
  have U1' : Upd (fun k => k = w1.heap.size) ((w1.alloc (.cells #[.slice none 0 0, .slice none 0 0, .slice none 0 0, .slice none 0 0, .slice none 0 0, .slice none 0 0, .slice none 0 0, .slice none 0 0, .slice none 0 0, .slice none 0 0] 33)).alloc (.cells #[.slice none 0 0, .slice none 0 0, .slice none 0 0, .slice none 0 0, .slice none 0 0, .slice none 0 0, .slice none 0 0, .slice none 0 0, .slice none 0 0, .slice none 0 0] 81)) w3 := U1.mono (fun k _ hk => by
    rcases hk with hk | hk | hk
    · exact hk
    · cases hk
    · cases hk)
  have D3 : Hid (Below (w.heap.size + 1) w0 w3) := D2.out.trans (U1'.below (by simp; omega) (fun k hk => by subst hk; omega))
  have G1h := hide G1
  have UB1 : Hid (Upd (fun k => k ≠ w1.heap.size + 1) ((w1.alloc (.cells #[.slice none 0 0, .slice none 0 0, .slice none 0 0, .slice none 0 0, .slice none 0 0, .slice none 0 0, .slice none 0 0, .slice none 0 0, .slice none 0 0, .slice none 0 0] 33)).alloc (.cells #[.slice none 0 0, .slice none 0 0, .slice none 0 0, .slice none 0 0, .slice none 0 0, .slice none 0 0, .slice none 0 0, .slice none 0 0, .slice none 0 0, .slice none 0 0] 81)) w3) := U1'.mono (fun k _ hk => by omega)
  clear cg1 G1 s1 U1 U1' nva nvb
  have cg2 := hide (given_vec w1.heap.size (w1.heap.size + 2) va vb _ _ ab B.length cb B w3 G1h.out (HB.out.bel (B0.out.trans (D3.out.mono (by omega)))) hmb (by simp) (by simp))
  go_wp2_with fail
  refine cg2.out.mono ?_
  rintro e w4 ⟨g2, c2, va2, vb2, g6, k6, rfl, s2, hg2, G2, U2, nva, nvb⟩
  have z4 := U2.size
  have hva : ∀ k, (k = w1.heap.size ∨ va.ownBlock = some k ∨ vb.ownBlock = some k) → k ≠ w1.heap.size + 1 ∧ w1.heap.size ≤ k := fun k hk => by
    rcases hk with hk | hk | hk
    · omega
    · have := (G1h.out.o2.blk k hk).1; omega
    · have := (G1h.out.o3.blk k hk).1; omega
  have D4 : Hid (Below (w.heap.size + 1) w0 w4) := D3.out.trans (U2.below (by omega) (fun k hk => by have := (hva k hk).2; omega))
  have UB : Upd (fun k => k ≠ w1.heap.size + 1) ((w1.alloc (.cells #[.slice none 0 0, .slice none 0 0, .slice none 0 0, .slice none 0 0, .slice none 0 0, .slice none 0 0, .slice none 0 0, .slice none 0 0, .slice none 0 0, .slice none 0 0] 33)).alloc (.cells #[.slice none 0 0, .slice none 0 0, .slice none 0 0, .slice none 0 0, .slice none 0 0, .slice none 0 0, .slice none 0 0, .slice none 0 0, .slice none 0 0, .slice none 0 0] 81)) w4 := UB1.out.trans (U2.mono (fun k _ hk => (hva k hk).1))
  have BK := hide (BNH.out.lift0 UB (B' := w4.heap.size) (by omega) (Nat.le_refl _))
  have Xg1 : Hid (SlN w4 (some ⟨g1, 0, none⟩) A.length c1 A) := dcs_prefix (G2.d2 ⟨some ⟨g1, 0, none⟩, c1, A ++ [(77, 88)]⟩ (by simp)) rfl
  have Xg2 : Hid (SlN w4 (some ⟨g2, 0, none⟩) B.length c2 B) := dcs_prefix (G2.d2 ⟨some ⟨g2, 0, none⟩, c2, B ++ [(77, 88)]⟩ (by simp)) rfl
  have G4 := hide G2
  have hm1 := Xg1.out.2.max
  have hp1 := Xg1.out.2.cap
  have hm2 := Xg2.out.2.max
  have hp2 := Xg2.out.2.cap
  unfold maxLen at hm1 hm2
  clear cg2 G1h BNH U2 UB UB1 hva s2 G2 nva nvb D2
  have KD : Hid (∀ v, Upd (· = w1.heap.size + 1) w4 v → v.cell? ⟨w.heap.size, 0, none⟩ = some (.int .u64 dx) ∧ v.cell? ⟨w.heap.size, 1, none⟩ = some (.int .u64 dy)) := fun v u => by
    have hb : Below (w.heap.size + 1) w0 v := D4.out.trans (u.below (by omega) (fun k hk => by subst hk; omega))
    exact ⟨(hb.cell (p := ⟨w.heap.size, 0, none⟩) (by show w.heap.size < _; omega)).trans KD0.out.1, (hb.cell (p := ⟨w.heap.size, 1, none⟩) (by show w.heap.size < _; omega)).trans KD0.out.2⟩
  try dsimp only
  go_wp2_with fail
  go_loopw [13] (fun i wr => ∃ i0 : Nat, i = .int .i64 (i0 : Int) ∧ i0 ≤ 3 ∧ Hid (Upd (· = w1.heap.size + 1) w4 wr) ∧ ∃ v1 v2 J V, Hid (BX wr (w1.heap.size + 1) w4.heap.size v1 v2 J V) ∧ Hid (V.length ≤ 4 * i0) ∧ Hid (J.length ≤ i0) ∧ Hid (∀ y, y ∈ V → blkOf y.a < wr.heap.size) ∧ Hid (∀ y, y ∈ J → blkOf y.a < wr.heap.size)) (fun i _ => 3 - (intOf i).toNat)
  case atStart => exact ⟨0, rfl, by omega, Upd.refl _ _, _, _, _, _, BK, Nat.le_refl _, Nat.le_refl _, (fun y hy => by cases hy), (fun y hy => by cases hy)⟩
  case round =>
    obtain ⟨i0, rfl, hi0, hu, v1, v2, J, V, HG, hVl', hJl', HV, HJ⟩ := hrel
    have hVl : V.length ≤ 4 * i0 := hVl'.out
    have hJl : J.length ≤ i0 := hJl'.out
    clear hVl' hJl'
    by_cases hlt : i0 < 3
    · by_cases h1 : i0 = 1
      · subst h1
        have hP : ∀ v, Upd (· = w1.heap.size + 1) w4 v → SlN v (some ⟨g2, 0, none⟩) B.length c2 B := fun v u => Xg2.out.updN u (by omega)
        have hQ : ∀ v, Upd (· = w1.heap.size + 1) w4 v → SlN v (some ⟨g1, 0, none⟩) A.length c1 A := fun v u => Xg1.out.updN u (by omega)
        have HP := hide hP
        have HQ := hide hQ
        clear hP hQ
        have k0 := (KD.out wr hu.out).1
        have k1 := (KD.out wr hu.out).2
        go_wp2_with fail
        refine (newO (B.length : Int) wr).mono ?_
        rintro e w5 ⟨a5, m5, c5, rfl, o5, b5⟩
        have O5 := hide o5
        have U5 : Hid (Upd (· = w1.heap.size + 1) w4 w5) := hu.out.trans (Upd.of_below b5)
        have BX5 := hide (HG.out.bel b5)
        have z5 := b5.size
        clear o5 b5 k0 k1
        have k0 := (KD.out w5 U5.out).1
        have k1 := (KD.out w5 U5.out).2
        have CS := hide (setO (some ⟨g2, 0, none⟩) B.length c2 B nd dx dy w5 (HP.out _ U5.out))
        try dsimp only
        go_wp2_with fail
        refine CS.out.mono ?_
        rintro e w6 ⟨a6, m6, c6, rfl, o6, b6⟩
        have O6 := hide o6
        have P5 := hide (O5.out.bel b6 (Nat.le_refl _))
        have U6 : Hid (Upd (· = w1.heap.size + 1) w4 w6) := U5.out.trans (Upd.of_below b6)
        have BX6 := hide (BX5.out.bel b6)
        have z6 := b6.size
        clear o6 b6 CS BX5 k0 k1
        have CM := hide (mergeO [⟨some ⟨g2, 0, none⟩, c2, B⟩] (some ⟨w6.heap.size, 0, none⟩) 1 1 (w6.alloc (.cells #[.slice (some ⟨g2, 0, none⟩) B.length c2] 23)) rfl (fun _ => ⟨w6.heap.size, 0, rfl, by simp, fun i y hy => by
          match i, hy with
          | 0, hy => simp at hy; subst hy; exact ⟨by simp, ((HP.out _ U6.out).bel ((Below.refl _ _).alloc (Nat.le_refl _) _)).vec⟩
          | i + 1, hy => simp at hy⟩) (Nat.le_refl _) (by unfold maxLen; omega))
        rw [World.size_alloc] at CM
        try dsimp only
        go_wp2_with fail
        refine CM.out.mono ?_
        rintro e w7 ⟨a7, m7, c7, rfl, o7, b7⟩
        have B7 : Hid (Below w6.heap.size w6 w7) := ((Below.refl w6.heap.size w6).alloc (Nat.le_refl _) _).trans (b7.mono (by omega))
        have O7 := hide o7
        have P6 := hide (O6.out.bel B7.out (Nat.le_refl _))
        have Q5 := hide (P5.out.bel B7.out (Nat.le_refl _))
        have U7 : Hid (Upd (· = w1.heap.size + 1) w4 w7) := U6.out.trans (Upd.of_below B7.out)
        have BX7 := hide (BX6.out.bel B7.out)
        have z7 := B7.out.size
        clear o7 b7 CM BX6 P5
        have CM := hide (mergeO [⟨some ⟨g2, 0, none⟩, c2, B⟩, ⟨some ⟨g1, 0, none⟩, c1, A⟩] (some ⟨w7.heap.size, 0, none⟩) 2 2 (w7.alloc (.cells #[.slice (some ⟨g2, 0, none⟩) B.length c2, .slice (some ⟨g1, 0, none⟩) A.length c1] 23)) rfl (fun _ => ⟨w7.heap.size, 0, rfl, by simp, fun i y hy => by
          match i, hy with
          | 0, hy => simp at hy; subst hy; exact ⟨by simp, ((HP.out _ U7.out).bel ((Below.refl _ _).alloc (Nat.le_refl _) _)).vec⟩
          | 1, hy => simp at hy; subst hy; exact ⟨by simp, ((HQ.out _ U7.out).bel ((Below.refl _ _).alloc (Nat.le_refl _) _)).vec⟩
          | i + 2, hy => simp at hy⟩) (Nat.le_refl _) (by unfold maxLen; omega))
        rw [World.size_alloc] at CM
        try dsimp only
        go_wp2_with fail
        refine CM.out.mono ?_
        rintro e w8 ⟨a8, m8, c8, rfl, o8, b8⟩
        have B8 : Hid (Below w7.heap.size w7 w8) := ((Below.refl w7.heap.size w7).alloc (Nat.le_refl _) _).trans (b8.mono (by omega))
        have O8 := hide o8
        have P7 := hide (O7.out.bel B8.out (Nat.le_refl _))
        have Q6 := hide (P6.out.bel B8.out (Nat.le_refl _))
        have R5 := hide (Q5.out.bel B8.out (Nat.le_refl _))
        have U8 : Hid (Upd (· = w1.heap.size + 1) w4 w8) := U7.out.trans (Upd.of_below B8.out)
        have BX8 := hide (BX7.out.bel B8.out)
        have z8 := B8.out.size
        clear o8 b8 CM BX7 P6 Q5
        have CA : Hid (Calls Try.prog 27 #[.slice (some ⟨w8.heap.size, 0, none⟩) 2 2] (w8.alloc (.cells #[.int .i64 nd, .slice (some ⟨g2, 0, none⟩) B.length c2, .int .i64 0, .slice (some ⟨g1, 0, none⟩) A.length c1] 56)) fun e w' => ∃ a9 m9 c9 l9 E, e = .returned (.tuple #[.slice a9 m9 c9, .int .i64 E]) ∧ OwnJ w8.heap.size w' (.slice a9 m9 c9) l9 ∧ l9.length ≤ 2 ∧ Below w8.heap.size w8 w') := by
          have ba : Below w8.heap.size w8 (w8.alloc (.cells #[.int .i64 nd, .slice (some ⟨g2, 0, none⟩) B.length c2, .int .i64 0, .slice (some ⟨g1, 0, none⟩) A.length c1] 56)) := (Below.refl _ _).alloc (Nat.le_refl _) _
          have hs : SlW (w8.alloc (.cells #[.int .i64 nd, .slice (some ⟨g2, 0, none⟩) B.length c2, .int .i64 0, .slice (some ⟨g1, 0, none⟩) A.length c1] 56)) (some ⟨w8.heap.size, 0, none⟩) 2 2 [⟨nd, ⟨some ⟨g2, 0, none⟩, c2, B⟩⟩, ⟨0, ⟨some ⟨g1, 0, none⟩, c1, A⟩⟩] := ⟨rfl, Nat.le_refl _, by unfold maxLen; omega, fun _ => ⟨w8.heap.size, 0, rfl, by simp, fun i y hy => by
            match i, hy with
            | 0, hy => simp at hy; subst hy; exact ⟨by simp, by simp, ((HP.out _ U8.out).bel ba).vec⟩
            | 1, hy => simp at hy; subst hy; exact ⟨by simp, by simp, ((HQ.out _ U8.out).bel ba).vec⟩
            | i + 2, hy => simp at hy⟩⟩
          refine (aliveU _ _ 2 2 _ hs (by omega)).mono ?_
          rintro e w' ⟨h1, h2⟩
          have hb : Below w8.heap.size w8 w' := ba.trans (h2.mono (by simp))
          rcases h1 with ⟨_, v, rfl, hv⟩ | ⟨_, rfl⟩
          · have hv := (OwnJ.of hv).low (B' := w8.heap.size) (by simp)
            obtain ⟨a9, c9, rfl, _⟩ := hv.form
            exact ⟨a9, _, c9, _, 0, rfl, hv, by have := outs_le (pV [⟨nd, ⟨some ⟨g2, 0, none⟩, c2, B⟩⟩, ⟨0, ⟨some ⟨g1, 0, none⟩, c1, A⟩⟩]) 2; simpa using this, hb⟩
          · exact ⟨none, 0, 0, [], 30, rfl, OwnJ.nil _ _, by simp, hb⟩
        try dsimp only
        go_wp2_with fail
        refine CA.out.mono ?_
        rintro e w9 ⟨a9, m9, c9, l9, E9, rfl, o9, hl9, B9⟩
        have O9 := hide o9
        have P8 := hide (O8.out.bel B9 (Nat.le_refl _))
        have Q7 := hide (P7.out.bel B9 (Nat.le_refl _))
        have R6 := hide (Q6.out.bel B9 (Nat.le_refl _))
        have S5 := hide (R5.out.bel B9 (Nat.le_refl _))
        have U9 : Hid (Upd (· = w1.heap.size + 1) w4 w9) := U8.out.trans (Upd.of_below B9)
        have BX9 := hide (BX8.out.bel B9)
        have z9 := B9.size
        have zr4 := hu.out.size
        clear o9 B9 CA BX8 Q6 R5 P7
        have n5 : m5 ≤ 1000 := by have h1 := S5.out.len; have h2 := newD_le (B.length : Int); omega
        have n6 : m6 ≤ 1000 := by have h1 := R6.out.len; have h2 := setD_le B nd (dx, dy); omega
        have n7 : m7 ≤ 1000 := by have h1 := Q7.out.len; have h2 := mgD_le [B]; simp only [List.map_cons, List.map_nil] at h1; omega
        have n8 : m8 ≤ 1000 := by have h1 := P8.out.len; have h2 := mgD_le [B, A]; simp only [List.map_cons, List.map_nil] at h1; omega
        have n9 : m9 ≤ 1000 := by have h1 := O9.out.len; omega
        -- the book
        have cb := hide (bookV (lim := wr.heap.size) (lim' := w5.heap.size) BX9.out S5.out zr4 z5 HV.out (fun k e => (O5.out.blk k e).2) n5 (by omega))
        try dsimp only
        go_wp2_with fail
        refine cb.out.mono ?_
        rintro e w10 ⟨v10, V10, rfl, G10, hl10, hV10, u10⟩
        have U10 : Hid (Upd (· = w1.heap.size + 1) w4 w10) := U9.out.trans29 u10 (fun i hi hs => by
          rcases hs with hs | hs
          · exact hs
          · have := (BX9.out.o2.blk i hs).1; omega)
        have hne10 : ∀ {B' : Nat} {v : Value} {l : List (Int × Int)}, OwnD B' w9 v l → w1.heap.size + 1 < B' → ∀ k, v.ownBlock = some k → ¬ (k = w1.heap.size + 1 ∨ v2.ownBlock = some k) := fun ho hB k e hc => by
          rcases hc with hc | hc
          · have := (ho.blk k e).1; omega
          · exact rows_ne ho BX9.out.o2 (by decide) e hc
        have T6 := hide (R6.out.upd2 u10 (hne10 R6.out (by omega)))
        have T7 := hide (Q7.out.upd2 u10 (hne10 Q7.out (by omega)))
        have T8 := hide (P8.out.upd2 u10 (hne10 P8.out (by omega)))
        have T9 := hide (O9.out.upd2 u10 (fun k e hc => by
          rcases hc with hc | hc
          · have := (O9.out.blk k e).1; omega
          · exact rows_ne O9.out BX9.out.o2 (by decide) e hc))
        have BX10 := hide G10
        have HV10 := hide hV10
        have z10 := u10.size
        clear cb u10 hne10 G10 hV10 BX9 S5 R6 Q7 P8
        have cb := hide (bookV (lim := w5.heap.size) (lim' := w6.heap.size) BX10.out T6.out (by omega) z6 HV10.out (fun k e => (O6.out.blk k e).2) n6 (by omega))
        go_wp2_with fail
        refine cb.out.mono ?_
        rintro e w11 ⟨v11, V11, rfl, G11, hl11, hV11, u11⟩
        have U11 : Hid (Upd (· = w1.heap.size + 1) w4 w11) := U10.out.trans29 u11 (fun i hi hs => by
          rcases hs with hs | hs
          · exact hs
          · have := (BX10.out.o2.blk i hs).1; omega)
        have hne11 : ∀ {B' : Nat} {v : Value} {l : List (Int × Int)}, OwnD B' w10 v l → w1.heap.size + 1 < B' → ∀ k, v.ownBlock = some k → ¬ (k = w1.heap.size + 1 ∨ v10.ownBlock = some k) := fun ho hB k e hc => by
          rcases hc with hc | hc
          · have := (ho.blk k e).1; omega
          · exact rows_ne ho BX10.out.o2 (by decide) e hc
        have Y7 := hide ((T7.out.upd2 u11 (hne11 T7.out (by omega))).low (B' := w6.heap.size) (by omega))
        have Y8 := hide (T8.out.upd2 u11 (hne11 T8.out (by omega)))
        have Y9 := hide (T9.out.upd2 u11 (fun k e hc => by
          rcases hc with hc | hc
          · have := (T9.out.blk k e).1; omega
          · exact rows_ne T9.out BX10.out.o2 (by decide) e hc))
        have BX11 := hide G11
        have HV11 := hide hV11
        have z11 := u11.size
        clear cb u11 hne11 G11 hV11 BX10 T6 T7 T8 T9 HV10
        have cb := hide (bookV (lim := w6.heap.size) (lim' := w7.heap.size) BX11.out Y7.out (by omega) z7 HV11.out (fun k e => (O7.out.blk k e).2) n7 (by omega))
        go_wp2_with fail
        refine cb.out.mono ?_
        rintro e w12 ⟨v12, V12, rfl, G12, hl12, hV12, u12⟩
        have U12 : Hid (Upd (· = w1.heap.size + 1) w4 w12) := U11.out.trans29 u12 (fun i hi hs => by
          rcases hs with hs | hs
          · exact hs
          · have := (BX11.out.o2.blk i hs).1; omega)
        have Z8 := hide ((Y8.out.upd2 u12 (fun k e hc => by
          rcases hc with hc | hc
          · have := (Y8.out.blk k e).1; omega
          · exact rows_ne Y8.out BX11.out.o2 (by decide) e hc)).low (B' := w7.heap.size) (by omega))
        have Z9 := hide (Y9.out.upd2 u12 (fun k e hc => by
          rcases hc with hc | hc
          · have := (Y9.out.blk k e).1; omega
          · exact rows_ne Y9.out BX11.out.o2 (by decide) e hc))
        have BX12 := hide G12
        have HV12 := hide hV12
        have z12 := u12.size
        clear cb u12 G12 hV12 BX11 Y7 Y8 Y9 HV11
        have cb := hide (bookV (lim := w7.heap.size) (lim' := w8.heap.size) BX12.out Z8.out (by omega) z8 HV12.out (fun k e => (O8.out.blk k e).2) n8 (by omega))
        go_wp2_with fail
        refine cb.out.mono ?_
        rintro e w13 ⟨v13, V13, rfl, G13, hl13, hV13, u13⟩
        have U13 : Hid (Upd (· = w1.heap.size + 1) w4 w13) := U12.out.trans29 u13 (fun i hi hs => by
          rcases hs with hs | hs
          · exact hs
          · have := (BX12.out.o2.blk i hs).1; omega)
        have X9 := hide (Z9.out.upd2 u13 (fun k e hc => by
          rcases hc with hc | hc
          · have := (Z9.out.blk k e).1; omega
          · exact rows_ne Z9.out BX12.out.o2 (by decide) e hc))
        have BX13 := hide G13
        have HV13 := hide hV13
        have z13 := u13.size
        clear cb u13 G13 hV13 BX12 Z8 Z9 HV12
        have cb := hide (bookJ (lim := w8.heap.size) (lim' := w9.heap.size) BX13.out X9.out (by omega) z9 (fun y hy => Nat.lt_of_lt_of_le (HJ.out y hy) (by omega)) (fun k e => (O9.out.blk k e).2) n9 (by omega))
        go_wp2_with fail
        refine cb.out.mono ?_
        rintro e w14 ⟨v14, J14, rfl, G14, hl14, hJ14, u14⟩
        have U14 : Hid (Upd (· = w1.heap.size + 1) w4 w14) := U13.out.trans29 u14 (fun i hi hs => by
          rcases hs with hs | hs
          · exact hs
          · have := (BX13.out.o1.blk i hs).1; omega)
        have BX14 := hide G14
        have HV14 : Hid (∀ y, y ∈ V13 → blkOf y.a < w14.heap.size) := fun y hy => Nat.lt_of_lt_of_le (HV13.out y hy) (by have := u14.size; omega)
        have HJ14 : Hid (∀ y, y ∈ J14 → blkOf y.a < w14.heap.size) := fun y hy => Nat.lt_of_lt_of_le (hJ14 y hy) (by have := u14.size; omega)
        have hVc : Hid (V13.length ≤ 4 * (2)) := by show _ ≤ _; omega
        have hJc : Hid (J14.length ≤ 2) := by show _ ≤ _; omega
        clear cb u14 G14 hJ14 BX13 X9 HV13 O5 O6 O7 O8 O9
        try dsimp only
        go_wp2
        go_round
        case rel => exact ⟨2, by go_num, by omega, U14, _, _, _, _, BX14, hVc, hJc, HV14, HJ14⟩
        case measure => first | (simp [intOf]; done) | (simp [intOf]; omega)
      · have h2 : ((i0 : Int) == 1) = false := by simp; omega
        have h3 : ¬ (i0 : Int) = 1 := by omega
        have hP : ∀ v, Upd (· = w1.heap.size + 1) w4 v → SlN v (some ⟨g1, 0, none⟩) A.length c1 A := fun v u => Xg1.out.updN u (by omega)
        have hQ : ∀ v, Upd (· = w1.heap.size + 1) w4 v → SlN v (some ⟨g2, 0, none⟩) B.length c2 B := fun v u => Xg2.out.updN u (by omega)
        have HP := hide hP
        have HQ := hide hQ
        clear hP hQ
        have k0 := (KD.out wr hu.out).1
        have k1 := (KD.out wr hu.out).2
        go_wp2_with fail
        refine (newO (A.length : Int) wr).mono ?_
        rintro e w5 ⟨a5, m5, c5, rfl, o5, b5⟩
        have O5 := hide o5
        have U5 : Hid (Upd (· = w1.heap.size + 1) w4 w5) := hu.out.trans (Upd.of_below b5)
        have BX5 := hide (HG.out.bel b5)
        have z5 := b5.size
        clear o5 b5 k0 k1
        have k0 := (KD.out w5 U5.out).1
        have k1 := (KD.out w5 U5.out).2
        have CS := hide (setO (some ⟨g1, 0, none⟩) A.length c1 A nd dx dy w5 (HP.out _ U5.out))
        try dsimp only
        go_wp2_with fail
        refine CS.out.mono ?_
        rintro e w6 ⟨a6, m6, c6, rfl, o6, b6⟩
        have O6 := hide o6
        have P5 := hide (O5.out.bel b6 (Nat.le_refl _))
        have U6 : Hid (Upd (· = w1.heap.size + 1) w4 w6) := U5.out.trans (Upd.of_below b6)
        have BX6 := hide (BX5.out.bel b6)
        have z6 := b6.size
        clear o6 b6 CS BX5 k0 k1
        have CM := hide (mergeO [⟨some ⟨g1, 0, none⟩, c1, A⟩] (some ⟨w6.heap.size, 0, none⟩) 1 1 (w6.alloc (.cells #[.slice (some ⟨g1, 0, none⟩) A.length c1] 23)) rfl (fun _ => ⟨w6.heap.size, 0, rfl, by simp, fun i y hy => by
          match i, hy with
          | 0, hy => simp at hy; subst hy; exact ⟨by simp, ((HP.out _ U6.out).bel ((Below.refl _ _).alloc (Nat.le_refl _) _)).vec⟩
          | i + 1, hy => simp at hy⟩) (Nat.le_refl _) (by unfold maxLen; omega))
        rw [World.size_alloc] at CM
        try dsimp only
        go_wp2_with fail
        refine CM.out.mono ?_
        rintro e w7 ⟨a7, m7, c7, rfl, o7, b7⟩
        have B7 : Hid (Below w6.heap.size w6 w7) := ((Below.refl w6.heap.size w6).alloc (Nat.le_refl _) _).trans (b7.mono (by omega))
        have O7 := hide o7
        have P6 := hide (O6.out.bel B7.out (Nat.le_refl _))
        have Q5 := hide (P5.out.bel B7.out (Nat.le_refl _))
        have U7 : Hid (Upd (· = w1.heap.size + 1) w4 w7) := U6.out.trans (Upd.of_below B7.out)
        have BX7 := hide (BX6.out.bel B7.out)
        have z7 := B7.out.size
        clear o7 b7 CM BX6 P5
        have CM := hide (mergeO [⟨some ⟨g1, 0, none⟩, c1, A⟩, ⟨some ⟨g2, 0, none⟩, c2, B⟩] (some ⟨w7.heap.size, 0, none⟩) 2 2 (w7.alloc (.cells #[.slice (some ⟨g1, 0, none⟩) A.length c1, .slice (some ⟨g2, 0, none⟩) B.length c2] 23)) rfl (fun _ => ⟨w7.heap.size, 0, rfl, by simp, fun i y hy => by
          match i, hy with
          | 0, hy => simp at hy; subst hy; exact ⟨by simp, ((HP.out _ U7.out).bel ((Below.refl _ _).alloc (Nat.le_refl _) _)).vec⟩
          | 1, hy => simp at hy; subst hy; exact ⟨by simp, ((HQ.out _ U7.out).bel ((Below.refl _ _).alloc (Nat.le_refl _) _)).vec⟩
          | i + 2, hy => simp at hy⟩) (Nat.le_refl _) (by unfold maxLen; omega))
        rw [World.size_alloc] at CM
        try dsimp only
        go_wp2_with fail
        refine CM.out.mono ?_
        rintro e w8 ⟨a8, m8, c8, rfl, o8, b8⟩
        have B8 : Hid (Below w7.heap.size w7 w8) := ((Below.refl w7.heap.size w7).alloc (Nat.le_refl _) _).trans (b8.mono (by omega))
        have O8 := hide o8
        have P7 := hide (O7.out.bel B8.out (Nat.le_refl _))
        have Q6 := hide (P6.out.bel B8.out (Nat.le_refl _))
        have R5 := hide (Q5.out.bel B8.out (Nat.le_refl _))
        have U8 : Hid (Upd (· = w1.heap.size + 1) w4 w8) := U7.out.trans (Upd.of_below B8.out)
        have BX8 := hide (BX7.out.bel B8.out)
        have z8 := B8.out.size
        clear o8 b8 CM BX7 P6 Q5
        have CA : Hid (Calls Try.prog 27 #[.slice (some ⟨w8.heap.size, 0, none⟩) 2 2] (w8.alloc (.cells #[.int .i64 nd, .slice (some ⟨g1, 0, none⟩) A.length c1, .int .i64 0, .slice (some ⟨g2, 0, none⟩) B.length c2] 56)) fun e w' => ∃ a9 m9 c9 l9 E, e = .returned (.tuple #[.slice a9 m9 c9, .int .i64 E]) ∧ OwnJ w8.heap.size w' (.slice a9 m9 c9) l9 ∧ l9.length ≤ 2 ∧ Below w8.heap.size w8 w') := by
          have ba : Below w8.heap.size w8 (w8.alloc (.cells #[.int .i64 nd, .slice (some ⟨g1, 0, none⟩) A.length c1, .int .i64 0, .slice (some ⟨g2, 0, none⟩) B.length c2] 56)) := (Below.refl _ _).alloc (Nat.le_refl _) _
          have hs : SlW (w8.alloc (.cells #[.int .i64 nd, .slice (some ⟨g1, 0, none⟩) A.length c1, .int .i64 0, .slice (some ⟨g2, 0, none⟩) B.length c2] 56)) (some ⟨w8.heap.size, 0, none⟩) 2 2 [⟨nd, ⟨some ⟨g1, 0, none⟩, c1, A⟩⟩, ⟨0, ⟨some ⟨g2, 0, none⟩, c2, B⟩⟩] := ⟨rfl, Nat.le_refl _, by unfold maxLen; omega, fun _ => ⟨w8.heap.size, 0, rfl, by simp, fun i y hy => by
            match i, hy with
            | 0, hy => simp at hy; subst hy; exact ⟨by simp, by simp, ((HP.out _ U8.out).bel ba).vec⟩
            | 1, hy => simp at hy; subst hy; exact ⟨by simp, by simp, ((HQ.out _ U8.out).bel ba).vec⟩
            | i + 2, hy => simp at hy⟩⟩
          refine (aliveU _ _ 2 2 _ hs (by omega)).mono ?_
          rintro e w' ⟨h1, h2⟩
          have hb : Below w8.heap.size w8 w' := ba.trans (h2.mono (by simp))
          rcases h1 with ⟨_, v, rfl, hv⟩ | ⟨_, rfl⟩
          · have hv := (OwnJ.of hv).low (B' := w8.heap.size) (by simp)
            obtain ⟨a9, c9, rfl, _⟩ := hv.form
            exact ⟨a9, _, c9, _, 0, rfl, hv, by have := outs_le (pV [⟨nd, ⟨some ⟨g1, 0, none⟩, c1, A⟩⟩, ⟨0, ⟨some ⟨g2, 0, none⟩, c2, B⟩⟩]) 2; simpa using this, hb⟩
          · exact ⟨none, 0, 0, [], 30, rfl, OwnJ.nil _ _, by simp, hb⟩
        try dsimp only
        go_wp2_with fail
        refine CA.out.mono ?_
        rintro e w9 ⟨a9, m9, c9, l9, E9, rfl, o9, hl9, B9⟩
        have O9 := hide o9
        have P8 := hide (O8.out.bel B9 (Nat.le_refl _))
        have Q7 := hide (P7.out.bel B9 (Nat.le_refl _))
        have R6 := hide (Q6.out.bel B9 (Nat.le_refl _))
        have S5 := hide (R5.out.bel B9 (Nat.le_refl _))
        have U9 : Hid (Upd (· = w1.heap.size + 1) w4 w9) := U8.out.trans (Upd.of_below B9)
        have BX9 := hide (BX8.out.bel B9)
        have z9 := B9.size
        have zr4 := hu.out.size
        clear o9 B9 CA BX8 Q6 R5 P7
        have n5 : m5 ≤ 1000 := by have h1 := S5.out.len; have h2 := newD_le (A.length : Int); omega
        have n6 : m6 ≤ 1000 := by have h1 := R6.out.len; have h2 := setD_le A nd (dx, dy); omega
        have n7 : m7 ≤ 1000 := by have h1 := Q7.out.len; have h2 := mgD_le [A]; simp only [List.map_cons, List.map_nil] at h1; omega
        have n8 : m8 ≤ 1000 := by have h1 := P8.out.len; have h2 := mgD_le [A, B]; simp only [List.map_cons, List.map_nil] at h1; omega
        have n9 : m9 ≤ 1000 := by have h1 := O9.out.len; omega
        -- the book
        have cb := hide (bookV (lim := wr.heap.size) (lim' := w5.heap.size) BX9.out S5.out zr4 z5 HV.out (fun k e => (O5.out.blk k e).2) n5 (by omega))
        try dsimp only
        go_wp2_with fail
        refine cb.out.mono ?_
        rintro e w10 ⟨v10, V10, rfl, G10, hl10, hV10, u10⟩
        have U10 : Hid (Upd (· = w1.heap.size + 1) w4 w10) := U9.out.trans29 u10 (fun i hi hs => by
          rcases hs with hs | hs
          · exact hs
          · have := (BX9.out.o2.blk i hs).1; omega)
        have hne10 : ∀ {B' : Nat} {v : Value} {l : List (Int × Int)}, OwnD B' w9 v l → w1.heap.size + 1 < B' → ∀ k, v.ownBlock = some k → ¬ (k = w1.heap.size + 1 ∨ v2.ownBlock = some k) := fun ho hB k e hc => by
          rcases hc with hc | hc
          · have := (ho.blk k e).1; omega
          · exact rows_ne ho BX9.out.o2 (by decide) e hc
        have T6 := hide (R6.out.upd2 u10 (hne10 R6.out (by omega)))
        have T7 := hide (Q7.out.upd2 u10 (hne10 Q7.out (by omega)))
        have T8 := hide (P8.out.upd2 u10 (hne10 P8.out (by omega)))
        have T9 := hide (O9.out.upd2 u10 (fun k e hc => by
          rcases hc with hc | hc
          · have := (O9.out.blk k e).1; omega
          · exact rows_ne O9.out BX9.out.o2 (by decide) e hc))
        have BX10 := hide G10
        have HV10 := hide hV10
        have z10 := u10.size
        clear cb u10 hne10 G10 hV10 BX9 S5 R6 Q7 P8
        have cb := hide (bookV (lim := w5.heap.size) (lim' := w6.heap.size) BX10.out T6.out (by omega) z6 HV10.out (fun k e => (O6.out.blk k e).2) n6 (by omega))
        go_wp2_with fail
        refine cb.out.mono ?_
        rintro e w11 ⟨v11, V11, rfl, G11, hl11, hV11, u11⟩
        have U11 : Hid (Upd (· = w1.heap.size + 1) w4 w11) := U10.out.trans29 u11 (fun i hi hs => by
          rcases hs with hs | hs
          · exact hs
          · have := (BX10.out.o2.blk i hs).1; omega)
        have hne11 : ∀ {B' : Nat} {v : Value} {l : List (Int × Int)}, OwnD B' w10 v l → w1.heap.size + 1 < B' → ∀ k, v.ownBlock = some k → ¬ (k = w1.heap.size + 1 ∨ v10.ownBlock = some k) := fun ho hB k e hc => by
          rcases hc with hc | hc
          · have := (ho.blk k e).1; omega
          · exact rows_ne ho BX10.out.o2 (by decide) e hc
        have Y7 := hide ((T7.out.upd2 u11 (hne11 T7.out (by omega))).low (B' := w6.heap.size) (by omega))
        have Y8 := hide (T8.out.upd2 u11 (hne11 T8.out (by omega)))
        have Y9 := hide (T9.out.upd2 u11 (fun k e hc => by
          rcases hc with hc | hc
          · have := (T9.out.blk k e).1; omega
          · exact rows_ne T9.out BX10.out.o2 (by decide) e hc))
        have BX11 := hide G11
        have HV11 := hide hV11
        have z11 := u11.size
        clear cb u11 hne11 G11 hV11 BX10 T6 T7 T8 T9 HV10
        have cb := hide (bookV (lim := w6.heap.size) (lim' := w7.heap.size) BX11.out Y7.out (by omega) z7 HV11.out (fun k e => (O7.out.blk k e).2) n7 (by omega))
        go_wp2_with fail
        refine cb.out.mono ?_
        rintro e w12 ⟨v12, V12, rfl, G12, hl12, hV12, u12⟩
        have U12 : Hid (Upd (· = w1.heap.size + 1) w4 w12) := U11.out.trans29 u12 (fun i hi hs => by
          rcases hs with hs | hs
          · exact hs
          · have := (BX11.out.o2.blk i hs).1; omega)
        have Z8 := hide ((Y8.out.upd2 u12 (fun k e hc => by
          rcases hc with hc | hc
          · have := (Y8.out.blk k e).1; omega
          · exact rows_ne Y8.out BX11.out.o2 (by decide) e hc)).low (B' := w7.heap.size) (by omega))
        have Z9 := hide (Y9.out.upd2 u12 (fun k e hc => by
          rcases hc with hc | hc
          · have := (Y9.out.blk k e).1; omega
          · exact rows_ne Y9.out BX11.out.o2 (by decide) e hc))
        have BX12 := hide G12
        have HV12 := hide hV12
        have z12 := u12.size
        clear cb u12 G12 hV12 BX11 Y7 Y8 Y9 HV11
        have cb := hide (bookV (lim := w7.heap.size) (lim' := w8.heap.size) BX12.out Z8.out (by omega) z8 HV12.out (fun k e => (O8.out.blk k e).2) n8 (by omega))
        go_wp2_with fail
        refine cb.out.mono ?_
        rintro e w13 ⟨v13, V13, rfl, G13, hl13, hV13, u13⟩
        have U13 : Hid (Upd (· = w1.heap.size + 1) w4 w13) := U12.out.trans29 u13 (fun i hi hs => by
          rcases hs with hs | hs
          · exact hs
          · have := (BX12.out.o2.blk i hs).1; omega)
        have X9 := hide (Z9.out.upd2 u13 (fun k e hc => by
          rcases hc with hc | hc
          · have := (Z9.out.blk k e).1; omega
          · exact rows_ne Z9.out BX12.out.o2 (by decide) e hc))
        have BX13 := hide G13
        have HV13 := hide hV13
        have z13 := u13.size
        clear cb u13 G13 hV13 BX12 Z8 Z9 HV12
        have cb := hide (bookJ (lim := w8.heap.size) (lim' := w9.heap.size) BX13.out X9.out (by omega) z9 (fun y hy => Nat.lt_of_lt_of_le (HJ.out y hy) (by omega)) (fun k e => (O9.out.blk k e).2) n9 (by omega))
        go_wp2_with fail
        refine cb.out.mono ?_
        rintro e w14 ⟨v14, J14, rfl, G14, hl14, hJ14, u14⟩
        have U14 : Hid (Upd (· = w1.heap.size + 1) w4 w14) := U13.out.trans29 u14 (fun i hi hs => by
          rcases hs with hs | hs
          · exact hs
          · have := (BX13.out.o1.blk i hs).1; omega)
        have BX14 := hide G14
        have HV14 : Hid (∀ y, y ∈ V13 → blkOf y.a < w14.heap.size) := fun y hy => Nat.lt_of_lt_of_le (HV13.out y hy) (by have := u14.size; omega)
        have HJ14 : Hid (∀ y, y ∈ J14 → blkOf y.a < w14.heap.size) := fun y hy => Nat.lt_of_lt_of_le (hJ14 y hy) (by have := u14.size; omega)
        have hVc : Hid (V13.length ≤ 4 * (i0 + 1)) := by show _ ≤ _; omega
        have hJc : Hid (J14.length ≤ i0 + 1) := by show _ ≤ _; omega
        clear cb u14 G14 hJ14 BX13 X9 HV13 O5 O6 O7 O8 O9
        try dsimp only
        go_wp2
        go_round
        case rel => exact ⟨i0 + 1, by go_num, by omega, U14, _, _, _, _, BX14, hVc, hJc, HV14, HJ14⟩
        case measure => first | (simp [intOf]; done) | (simp [intOf]; omega)
    · obtain rfl : i0 = 3 := by omega
      have ca := hide (book_apart HG.out (by omega) (by omega))
      have HBL : Hid (∀ k, (inJ J k ∨ inV V k) → w4.heap.size ≤ k) := fun k hk => by
        rcases hk with ⟨y, hy, e⟩ | ⟨y, hy, e⟩
        · exact ((HG.out.ej y hy).1.blk k (by rw [e]; rfl)).1
        · exact ((HG.out.ev y hy).1.blk k (by rw [e]; rfl)).1
      go_wp2_with fail
      refine ca.out.mono ?_
      rintro e w15 ⟨rfl, u15⟩
      have U15 : Hid (Upd (· = w1.heap.size + 1) w4 w15) := hu.out.trans29 u15 (fun i hi hs => by have := HBL.out i hs; omega)
      have G15 := hide (G4.out.beside U15.out (by omega) (by omega))
      clear ca HBL u15 HG HV HJ
      have ci := hide (intact_any w1.heap.size (w1.heap.size + 2) va2 vb2 _ _ w15 G15.out rfl)
      try dsimp only
      go_wp2_with fail
      refine ci.out.mono ?_
      rintro e w16 ⟨rfl, b16⟩
      have U16 : Hid (Upd (· = w1.heap.size + 1) w4 w16) := U15.out.trans (Upd.of_below b16)
      have D16 : Hid (Below (w.heap.size + 1) w0 w16) := D4.out.trans (U16.out.below (by omega) (fun k hk => by subst hk; omega))
      have z16 := D16.out.size
      rw [hwz.out] at z16
      clear ci b16 U15 G15
      have cc := hide (copyvec_any a A.length ca A w16 (HA.out.bel (B0.out.trans (D16.out.mono (by omega)))) (by omega))
      try dsimp only
      go_wp2_with fail
      refine cc.out.mono ?_
      rintro e w17 ⟨v17, rfl, o17, b17⟩
      obtain ⟨a17, c17, rfl, q1, q2, q3, q4⟩ := o17.form
      have O17 := hide o17
      have D17 := hide (D16.out.trans (b17.mono z16))
      have z17 := b17.size
      have B17 := hide b17
      clear cc o17 b17
      have E17 : Hid (Below w16.heap.size w16 w17) := B17
      have C17 := hide (O17.out.any)
      have CM : Hid (∀ (v : World) (C : List (Int × Int)), SlN v a17 A.length c17 C → ∀ f, (f = 20 ∨ f = 21) → Calls Try.prog f #[.slice (some ⟨v.heap.size, 0, none⟩) 2 2] (v.alloc (.cells #[.slice a17 A.length c17, .slice a17 A.length c17] 23)) fun e w' => ∃ a' m c', e = .returned (.tuple #[.slice a' m c', .int .i64 (mgE [C, C])]) ∧ SlN w' a' m c' (mgD [C, C]) ∧ Below v.heap.size v w') := fun v C hc f hf => by
        have ba : Below v.heap.size v (v.alloc (.cells #[.slice a17 A.length c17, .slice a17 A.length c17] 23)) := (Below.refl _ _).alloc (Nat.le_refl _) _
        have hl : C.length = A.length := hc.1
        have hx : ([⟨a17, c17, C⟩, ⟨a17, c17, C⟩] : List Vec) ≠ [] → ∃ q o, (some ⟨v.heap.size, 0, none⟩ : Option Addr) = some ⟨q, o, none⟩ ∧ q < (v.alloc (.cells #[.slice a17 A.length c17, .slice a17 A.length c17] 23)).heap.size ∧ LieV (v.alloc (.cells #[.slice a17 A.length c17, .slice a17 A.length c17] 23)) q o [⟨a17, c17, C⟩, ⟨a17, c17, C⟩] := fun _ => ⟨v.heap.size, 0, rfl, by simp, fun i y hy => by
          match i, hy with
          | 0, hy => simp at hy; subst hy; exact ⟨by simp [hl], (hc.bel ba).vec⟩
          | 1, hy => simp at hy; subst hy; exact ⟨by simp [hl], (hc.bel ba).vec⟩
          | i + 2, hy => simp at hy⟩
        rcases hf with rfl | rfl
        · refine (mergeU [⟨a17, c17, C⟩, ⟨a17, c17, C⟩] (some ⟨v.heap.size, 0, none⟩) 2 2 _ rfl hx (Nat.le_refl _) (by unfold maxLen; omega)).mono ?_
          rintro e w' ⟨a', m, c', rfl, h1, h2⟩
          exact ⟨a', m, c', rfl, h1, ba.trans (h2.mono (by simp))⟩
        · refine (refmergeU [⟨a17, c17, C⟩, ⟨a17, c17, C⟩] (some ⟨v.heap.size, 0, none⟩) 2 2 _ rfl hx (Nat.le_refl _) (by unfold maxLen; omega)).mono ?_
          rintro e w' ⟨a', m, c', rfl, h1, h2⟩
          exact ⟨a', m, c', rfl, h1, ba.trans (h2.mono (by simp))⟩
      have KD2 : Hid (∀ v, Below w16.heap.size w16 v → v.cell? ⟨w.heap.size, 0, none⟩ = some (.int .u64 dx) ∧ v.cell? ⟨w.heap.size, 1, none⟩ = some (.int .u64 dy)) := fun v u => KD.out v (U16.out.trans (Upd.of_below u))
      have cm := hide (CM.out w17 A C17.out _ (.inl rfl))
      go_wp2_with fail
      refine cm.out.mono ?_
      rintro e w18 ⟨a18, m18, c18, rfl, _, b18⟩
      have E18 := hide (E17.out.trans (b18.mono z17))
      have O18 := hide (O17.out.bel b18 (Nat.le_refl _))
      clear cm b18 E17 C17 O17
      have k0 := (KD2.out w18 E18.out).1
      have k1 := (KD2.out w18 E18.out).2
      have cs := hide (set_any a17 A.length c17 A nd dx dy w18 O18.out.any)
      try dsimp only
      go_wp2_with fail
      refine cs.out.mono ?_
      rintro e w19 ⟨a19, m19, c19, rfl, _, b19⟩
      have E19 := hide (E18.out.trans (b19.mono E18.out.size))
      have O19 := hide (O18.out.bel b19 (Nat.le_refl _))
      clear cs b19 E18 O18 k0 k1
      have hcl : A.length ≤ c17 ∧ c17 ≤ 9223372036854775807 := by have := q2; unfold maxLen at this; omega
      obtain ⟨hcl1, hcl2⟩ := hcl
      try dsimp only
      go_wp2_with fail
      go_loopw [27] (fun i wr => ∃ (j : Nat) (C : List (Int × Int)), i = .int .i64 (j : Int) ∧ j ≤ A.length ∧ Hid (OwnD w16.heap.size wr (.slice a17 A.length c17) C) ∧ Hid (Below w16.heap.size w16 wr)) (fun i _ => A.length - (intOf i).toNat)
      case atStart => exact ⟨0, A, rfl, Nat.zero_le _, O19, E19⟩
      case round =>
        obtain ⟨j, C, rfl, hj, hO, hE⟩ := hrel
        have hCl : C.length = A.length := hO.out.len
        by_cases hlt2 : j < A.length
        · obtain ⟨g, rfl, hgB⟩ : ∃ g, a17 = some ⟨g, 0, none⟩ ∧ w16.heap.size ≤ g := by
            cases a17 with
            | none => have := (q3 rfl).1; rw [this] at hlt2; simp at hlt2
            | some z => obtain ⟨g, rfl, h1, _⟩ := q4 z rfl; exact ⟨g, rfl, h1⟩
          have hg : C[j]? = some C[j] := List.getElem?_eq_getElem (by omega)
          obtain ⟨y0, y1⟩ := hO.out.cell j _ hg
          have f0 := hO.out.free (j * 2)
          have f1 := hO.out.free (j * 2 + 1)
          have HS : Hid (∀ (x y : Int), OwnD w16.heap.size (((wr.drew).setCell ⟨g, j * 2, none⟩ (.int .u64 x)).setCell ⟨g, j * 2 + 1, none⟩ (.int .u64 y)) (.slice (some ⟨g, 0, none⟩) A.length c17) (C.set j (x, y)) ∧ Below w16.heap.size w16 (((wr.drew).setCell ⟨g, j * 2, none⟩ (.int .u64 x)).setCell ⟨g, j * 2 + 1, none⟩ (.int .u64 y))) := fun x y =>
            ⟨(hO.out.bel ((Below.refl wr.heap.size wr).drew) (Nat.le_refl _)).set j x y, (hE.out.drew.setCell hgB _).setCell hgB _⟩
          generalize C[j] = d at *
          clear hg
          go_wp2_with fail
          go_region_with (fail)
          all_goals
            go_wp2
            go_round
            case rel => exact ⟨j + 1, _, by go_num, by omega, (HS.out _ _).1, (HS.out _ _).2⟩
            case measure => first | (simp [intOf]; done) | (simp [intOf]; omega)
        · obtain rfl : j = A.length := by omega
          clear O19 E19
          have D9 : Hid (Below (w.heap.size + 1) w0 wr) := D16.out.trans (hE.out.mono z16)
          have SC : Hid (∀ v, Below wr.heap.size wr v → SlN v a17 A.length c17 C) := fun v u => (hO.out.bel u (Nat.le_refl _)).any
          have zE := hE.out.size
          have c1' := hide (CM.out wr C (SC.out _ (Below.refl _ _)) _ (.inl rfl))
          go_wp2_with fail
          refine c1'.out.mono ?_
          rintro e w20 ⟨a20, m20, c20, rfl, s20, b20⟩
          have S20 := hide s20
          clear c1' s20
          have c2' := hide (CM.out w20 C (SC.out _ b20) _ (.inr rfl))
          have B20 := hide b20
          have z20 := b20.size
          clear b20
          try dsimp only
          go_wp2_with fail
          refine c2'.out.mono ?_
          rintro e w21 ⟨a21, m21, c21, rfl, s21, b21⟩
          have S21 := hide s21
          have T20 := hide (S20.out.bel b21)
          have B21 := hide (B20.out.trans (b21.mono z20))
          have z21 := B21.out.size
          clear c2' s21 b21 S20 B20 CM
          have k0 := (KD2.out w21 (hE.out.trans (B21.out.mono zE))).1
          have k1 := (KD2.out w21 (hE.out.trans (B21.out.mono zE))).2
          have cs := hide (set_any a17 A.length c17 C nd dx dy w21 (SC.out _ B21.out))
          try dsimp only
          go_wp2_with fail
          refine cs.out.mono ?_
          rintro e w22 ⟨a22, m22, c22, rfl, s22, b22⟩
          have S22 := hide s22
          have T21 := hide (S21.out.bel b22)
          have R20 := hide (T20.out.bel b22)
          have B22 := hide (B21.out.trans (b22.mono z21))
          have z22 := B22.out.size
          clear cs s22 b22 S21 T20 B21 k0 k1
          have k0 := (KD2.out w22 (hE.out.trans (B22.out.mono zE))).1
          have k1 := (KD2.out w22 (hE.out.trans (B22.out.mono zE))).2
          have cs := hide (refset_any a17 A.length c17 C nd dx dy w22 (SC.out _ B22.out))
          try dsimp only
          go_wp2_with fail
          refine cs.out.mono ?_
          rintro e w23 ⟨a23, m23, c23, rfl, s23, b23⟩
          have S23 := hide s23
          have T22 := hide (S22.out.bel b23)
          have R21 := hide (T21.out.bel b23)
          have Q20 := hide (R20.out.bel b23)
          have B23 := hide (B22.out.trans (b23.mono z22))
          clear cs s23 b23 S22 T21 R20 B22 k0 k1
          generalize mgE [C, C] = e1 at *
          generalize setE C nd = e2 at *
          have cv1 := hide (fun W (hW : Below w23.heap.size w23 W) => sameN (Q20.out.bel hW) (R21.out.bel hW))
          have cv2 := hide (fun W (hW : Below w23.heap.size w23 W) => sameN (T22.out.bel hW) (S23.out.bel hW))
          simp only [decide_true] at cv1 cv2
          try dsimp only
          go_wp2_with fail
          refine (num_any e1 w23).mono ?_
          rintro e w24 ⟨rfl, hw24⟩
          have hw24 := hw24.symm
          subst hw24
          try dsimp only
          go_wp2_with fail
          refine (cv1.out _ (Below.refl _ _)).mono ?_
          rintro e w25 ⟨rfl, kk25, hw25⟩
          have B25 : Hid (Below w23.heap.size w23 w25) := by show Below _ _ _; rw [hw25]; exact belV (Below.refl _ _) kk25
          clear hw25
          try dsimp only
          go_wp2_with fail
          refine (num_any e2 _).mono ?_
          rintro e w26 ⟨rfl, hw26⟩
          have hw26 := hw26.symm
          subst hw26
          try dsimp only
          go_wp2_with fail
          refine (cv2.out _ B25.out).mono ?_
          rintro e w27 ⟨rfl, kk27, hw27⟩
          have B27 : Hid (Below w23.heap.size w23 w27) := by show Below _ _ _; rw [hw27]; exact belV B25.out kk27
          clear hw27
          try dsimp only
          go_wp2
          go_ret
          exact ⟨rfl, (B0.out.trans (D9.out.mono (by omega))).trans ((B23.out.mono (by have := D9.out.size; omega)).trans (B27.out.mono (by have := B23.out.size; have := D9.out.size; omega)))⟩

end Go.Proofs.Ytcchnaldanibgaa
