import Derived.Test.YtdfoafpcoigklaaJx
import Derived.Test.YtdfoafpcoigklaaJc
import Derived.Test.YtdfoafpcoigklaaKp
import Derived.Test.YtdfoafpcoigklaaDe
import Derived.Deep.RegionHeld3
import Derived.Deep.RegionWith
namespace Go.Proofs.Ytdfoafpcoigklaa
open Go.RowKit Go.Maps
open Classical
set_option linter.unusedVariables false
set_option linter.unusedSimpArgs false

/-- What one turn of the law asks. -/
def F4 (L : List En) (m : Int) : List (List En) := [spL L 256 ((L.length : Int) + 1) [(⟨3, 9223372036854775807, ⟨4, 0, ByteArray.empty⟩⟩ : En)], ctL L m, tlL L (m + 1), spL L 256 (m + 1) []]
/-- What is kept behind the turns. -/
def KF (i0 : Nat) (X F : List (List En)) : Prop := (1 ≤ i0 → X.take 4 = F) ∧ (i0 = 3 → X.drop 8 = F) ∧ X.length = 4 * i0
theorem KF.own {i0 : Nat} {X F : List (List En)} (h : KF i0 X F) (hi : i0 = 0 ∨ i0 = 2) (hF : F.length = 4) : KF (i0 + 1) (X ++ F) F := by
  obtain ⟨h1, h2, h3⟩ := h
  rcases hi with rfl | rfl
  · obtain rfl : X = [] := List.eq_nil_of_length_eq_zero (by omega)
    exact ⟨fun _ => by rw [List.nil_append, List.take_of_length_le (by omega)], fun h => by omega, by simp; omega⟩
  · refine ⟨fun _ => ?_, fun _ => ?_, by rw [List.length_append]; omega⟩
    · rw [List.take_append_of_le_length (by omega)]; exact h1 (by omega)
    · rw [List.drop_append_of_le_length (by omega), List.drop_of_length_le (by omega)]; rfl
theorem KF.other {X F F1 : List (List En)} (h : KF 1 X F) (hF : F1.length = 4) : KF 2 (X ++ F1) F := by
  obtain ⟨h1, h2, h3⟩ := h
  exact ⟨fun _ => by rw [List.take_append_of_le_length (by omega)]; exact h1 (by omega), fun h => by omega, by rw [List.length_append]; omega⟩
theorem ctL_le (L : List En) (m : Int) : (ctL L m).length ≤ L.length := by
  unfold ctL
  split
  · simp
  · rw [List.length_take]; omega
theorem tlL_le (L : List En) (m : Int) : (tlL L m).length ≤ L.length := by
  unfold tlL
  split
  · simp
  · rw [List.length_drop]; omega
theorem spL_le (L : List En) (room m : Int) (T : List En) : (spL L room m T).length ≤ L.length + T.length := by
  unfold spL
  split
  · rw [List.length_append, List.length_take]; omega
  · simp
theorem pl_le (L : List En) (m : Int) : (pl [] ((ctL L m).map En.o)).length ≤ L.length := by
  have h : ∀ (P : List Opn) (C : List Cl), (pl C P).length ≤ C.length + P.length := by
    intro P
    induction P with
    | nil => intro C; simp [pl]
    | cons o r ih =>
      intro C
      have h1 := ih (dn C o.k o.s o.v)
      have h2 := len_dn C o.k o.s o.v
      have h3 : pl C (o :: r) = pl (dn C o.k o.s o.v) r := by simp [pl]
      rw [h3, List.length_cons]
      split at h2 <;> omega
  have := h ((ctL L m).map En.o) []
  have h4 := ctL_le L m
  simp at this
  omega
theorem rl_le (L : List En) (m : Int) : (rl [] ((ctL L m).map En.o)).length ≤ L.length := by
  rw [rl_length, List.length_map]
  exact ctL_le L m
theorem hxf : ((⟨3, 9223372036854775807, ⟨4, 0, ByteArray.empty⟩⟩ : En)).fits := ⟨by decide, by decide, ⟨by decide, by decide, by show ByteArray.empty.size ≤ maxLen; unfold maxLen; decide⟩⟩
set_option maxRecDepth 100000 in
set_option maxHeartbeats 8000000 in
theorem own6_walk (R1 R2 : List En) (a1 a2 : Option Addr) (n1 c1 n2 c2 : Nat) (k : Int) (hk : (Lit.int .i64 k).wf = true) (w : World) (h1 : SlY yW w a1 n1 c1 R1) (h2 : SlY yW w a2 n2 c2 R2) (hf1 : ∀ e ∈ R1, e.fits) (hf2 : ∀ e ∈ R2, e.fits) :
    Calls Try.prog 15 #[.slice a1 n1 c1, .slice a2 n2 c2, .int .i64 k] w fun e w' => e = .returned (.bool true) ∧ Below w.heap.size w w' := by
  have H2 := hide h2
  have HF2 := hide hf2
  have cg := hide (grown_any R1 a1 n1 c1 255 (by omega) (by omega) w h1 hf1)
  clear h1 h2 hf1 hf2
  go_enter Try.func15, Try.ntmps15
  go_wp2_with fail
  refine cg.out.mono ?_
  rintro e w1 ⟨vl, L, rfl, o1, gL, b1⟩
  obtain ⟨al, cl, rfl, _, _⟩ := o1.sl kE
  have OL1 := hide o1
  have D1 := hide b1
  have z1 := b1.size
  have hL255 : L.length ≤ 255 := by have := (chk_zero gL.ok).2.2.2; omega
  have hfL := gL.fit
  have cg2 := hide (grown_any R2 a2 n2 c2 255 (by omega) (by omega) w1 (H2.out.later b1) HF2.out)
  clear cg o1 b1 gL
  try dsimp only
  go_wp2_with fail
  refine cg2.out.mono ?_
  rintro e w2 ⟨vt, T, rfl, o2, gT, b2⟩
  obtain ⟨at_, ct, rfl, _, _⟩ := o2.sl kE
  have OT2 := hide o2
  have OL2 := hide (OL1.out.grow b2)
  have D2 := hide (D1.out.trans (b2.mono z1))
  have z2 := b2.size
  have hT255 : T.length ≤ 255 := by have := (chk_zero gT.ok).2.2.2; omega
  have hfT := gT.fit
  clear cg2 o2 b2 gT OL1 D1
  try dsimp only
  go_wp2_with fail
  refine (works6_any w2).mono ?_
  rintro e w3 ⟨rfl, b3⟩
  have OT3 := hide (OT2.out.grow b3)
  have OL3 := hide (OL2.out.grow b3)
  have D3 := hide (D2.out.trans (b3.mono (by omega)))
  have z3 := b3.size
  have HT : Hid (∀ g, (Value.slice at_ T.length ct).ownBlock = some g → g < w2.heap.size) := fun g e => (OT2.out.blk g e).2
  have HLb : Hid (∀ g, (Value.slice al L.length cl).ownBlock = some g → g < w2.heap.size) := fun g e => (OL2.out.blk g e).2
  clear b3 OT2 OL2 D2
  try dsimp only
  go_wp2_with fail
  refine (within6_any k (L.length : Int) hk (by omega) (by omega) w3).mono ?_
  rintro e w3' ⟨r, rfl, ⟨hr0, hr1⟩, hw3⟩
  have hw3 := hw3.symm
  subst hw3
  obtain ⟨n, rfl⟩ : ∃ n : Nat, r = (n : Int) := ⟨r.toNat, by omega⟩
  have OZ := hide (own_box kE w3.heap.size w3 (⟨0, 0, ⟨0, 0, ByteArray.empty⟩⟩ : En) (Nat.le_refl _))
  have hza : Hid ((w3.alloc (.cells #[.int .i64 0, .int .i64 0, .int .i64 0, .int .i64 0, .string ByteArray.empty] 41)).heap.size = w3.heap.size + 1) := by show _ = _; simp
  have BA : Hid (Below w3.heap.size w3 (w3.alloc (.cells #[.int .i64 0, .int .i64 0, .int .i64 0, .int .i64 0, .string ByteArray.empty] 41))) := (Below.refl _ _).alloc (Nat.le_refl _) _
  try dsimp only
  go_wp2_with (refine storeY kE _ rfl 41 (.tmp 12) (.tmp 58) rfl w3.heap.size w3.heap.size 1 1 [⟨0, 0, ⟨0, 0, ByteArray.empty⟩⟩] 0 0 ⟨0, 0, ⟨0, 0, ByteArray.empty⟩⟩ (⟨3, 9223372036854775807, ⟨4, 0, ByteArray.empty⟩⟩ : En) _ rfl rfl rfl (by kernel_rfl) (by exact (by decide : 5 ≤ 5)) rfl OZ.out ?za)
  intro w4 o4 u4 z4
  have OX4 := hide o4
  have B4 := hide (BA.out.trans (u4.below (by simp) (fun k e => by subst e; exact Nat.le_refl _)))
  have z4' : w4.heap.size = w3.heap.size + 1 := by first | exact z4 | exact z4.trans hza.out | (rw [z4]; simp)
  have Z4 := hide z4'
  clear o4 u4 z4 z4' OZ hza BA
  have bb : Below w4.heap.size w4 (w4.alloc (.cells #[.slice none 0 0, .slice none 0 0, .slice none 0 0, .slice none 0 0, .slice none 0 0, .slice none 0 0, .slice none 0 0, .slice none 0 0, .slice none 0 0, .slice none 0 0] 86)) := (Below.refl _ _).alloc (Nat.le_refl _) _
  have OL4 := hide ((OL3.out.grow B4.out).grow bb)
  have OT4 := hide ((OT3.out.grow B4.out).grow bb)
  have OXB := hide (OX4.out.grow bb)
  have D4 : Hid (Below w.heap.size w (w4.alloc (.cells #[.slice none 0 0, .slice none 0 0, .slice none 0 0, .slice none 0 0, .slice none 0 0, .slice none 0 0, .slice none 0 0, .slice none 0 0, .slice none 0 0, .slice none 0 0] 86))) := D3.out.trans ((B4.out.trans (bb.mono (by have := Z4.out; omega))).mono (by omega))
  have BN := hide (B3.new w.heap.size w4 86)
  rw [Z4.out] at BN
  have cc := hide (copyent_any al L.length cl L _ (OL4.out.sl' kE) (by omega))
  have hsz : Hid ((w4.alloc (.cells #[.slice none 0 0, .slice none 0 0, .slice none 0 0, .slice none 0 0, .slice none 0 0, .slice none 0 0, .slice none 0 0, .slice none 0 0, .slice none 0 0, .slice none 0 0] 86)).heap.size = w3.heap.size + 1 + 1) := by show _ = _; rw [World.size_alloc, Z4.out]
  clear OL3 OT3 OX4 B4 bb
  go_wp2_with fail
  refine cc.out.mono ?_
  rintro e w5 ⟨vo, rfl, o5, b5⟩
  rw [hsz.out] at o5
  obtain ⟨ao, co, rfl, so, hbo⟩ := o5.sl kE
  have z5 : w3.heap.size + 1 + 1 ≤ w5.heap.size := by have := b5.size; rwa [hsz.out] at this
  have OO := hide o5
  have OL := hide (OL4.out.grow b5)
  have OT := hide (OT4.out.grow b5)
  have OX := hide (OXB.out.grow b5)
  have G5 := hide (BN.out.bel b5)
  have D5 : Hid (Below w.heap.size w w5) := D4.out.trans (b5.mono (by rw [hsz.out]; omega))
  have S5 : Hid (OS (· = w3.heap.size + 1) w5 (w3.heap.size + 1) w.heap.size w5 (.slice none 0 0) [] (.slice none 0 0) (.slice none 0 0) (.slice none 0 0) [] [] [] w5.heap.size w5.heap.size w5.heap.size) :=
    ⟨by omega, by omega, rfl, Upd.refl _ _, ⟨CY.new _ _ _ _ _ _ (by omega) G5.out.e.cp G5.out.e.fp, CY.new _ _ _ _ _ _ (by omega) G5.out.c.cp G5.out.c.fp, CY.new _ _ _ _ _ _ (by omega) G5.out.r.cp G5.out.r.fp, G5.out.ce⟩, OwnY.nil _ _ _, (fun y hy => by cases hy), (fun g e => by cases e), (fun y hy => by cases hy), (fun y hy => by cases hy), (fun y hy => by cases hy)⟩
  have KX : Hid (∀ v, Upd (· = w3.heap.size + 1) w5 v → v.cell? ⟨w3.heap.size, 0, none⟩ = some (.int .i64 3) ∧ v.cell? ⟨w3.heap.size, 1, none⟩ = some (.int .i64 9223372036854775807) ∧ v.cell? ⟨w3.heap.size, 2, none⟩ = some (.int .i64 4) ∧ v.cell? ⟨w3.heap.size, 3, none⟩ = some (.int .i64 0) ∧ v.cell? ⟨w3.heap.size, 4, none⟩ = some (.string ByteArray.empty)) := fun v u => by
    have ox := OX.out.upd1 u (fun g e hc => by cases e; have h9 : w3.heap.size = w3.heap.size + 1 := hc; omega)
    have x0 := ox.cell kE 0 _ rfl 0 _ rfl
    have x1 := ox.cell kE 0 _ rfl 1 _ rfl
    have x2 := ox.cell kE 0 _ rfl 2 _ rfl
    have x3 := ox.cell kE 0 _ rfl 3 _ rfl
    have x4 := ox.cell kE 0 _ rfl 4 _ rfl
    simp only [Nat.zero_mul, Nat.zero_add] at x0 x1 x2 x3 x4
    exact ⟨x0, x1, x2, x3, x4⟩
  have hco := so.max
  have hlo := so.cap
  unfold maxLen at hco
  clear cc o5 b5 so OL4 OT4 OXB BN G5 D4 hsz OX hbo
  try dsimp only
  go_wp2_with fail
  rw [Z4.out]
  go_loopw [16, 14] (fun i kv wr => ∃ (i0 : Nat) (vk : Value) (K : List (SV En)) (v1 v2 v3 : Value) (V1 : List (SV En)) (V2 : List (SV Cl)) (V3 : List (SV Rs)), i = .int .i64 (i0 : Int) ∧ kv = vk ∧ i0 ≤ 3 ∧ Hid (OS (· = w3.heap.size + 1) w5 (w3.heap.size + 1) w.heap.size wr vk K v1 v2 v3 V1 V2 V3 wr.heap.size wr.heap.size wr.heap.size) ∧ K.length = 4 * i0 ∧ Hid (KF i0 (K.map (·.D)) (F4 L (n : Int))) ∧ V1.length ≤ 4 * i0 ∧ V2.length ≤ i0 ∧ V3.length ≤ i0) (fun i _ _ => 3 - (intOf i).toNat)
  case atStart => exact ⟨0, _, [], _, _, _, _, _, _, rfl, rfl, by omega, S5, rfl, ⟨fun h => by omega, fun h => by omega, rfl⟩, Nat.le_refl _, Nat.le_refl _, Nat.le_refl _⟩
  case round =>
    obtain ⟨i0, vk, K, v1, v2, v3, V1, V2, V3, rfl, hkv, hi0, hS, hKl, hKF, hV1, hV2, hV3⟩ := hrel
    have hkv := hkv.symm
    subst hkv
    by_cases hlt : i0 < 3
    · by_cases h1 : i0 = 1
      · subst h1
        go_wp2_with fail
        refine (within6_any k (T.length : Int) hk (by omega) (by omega) wr).mono ?_
        rintro e wr' ⟨r, rfl, ⟨hm0, hm1⟩, hwr⟩
        have hwr := hwr.symm
        subst hwr
        obtain ⟨m, rfl⟩ : ∃ m : Nat, r = (m : Int) := ⟨r.toNat, by omega⟩
        try dsimp only
        have HP : Hid (∀ v, Upd (· = w3.heap.size + 1) w5 v → SlY yE v at_ T.length ct T) := fun v u => (OT.out.upd1 u (fun g e hc => by have h8 := HT.out g e; have h9 : g = w3.heap.size + 1 := hc; omega)).sl' kE
        have hw1 : IntKind.i64.wrap ((m : Int) + 1) = (m : Int) + 1 := by rw [IntKind.wrap_i64]; omega
        obtain ⟨k0, k1, k2, k3, k4⟩ := KX.out wr hS.out.u
        have CA := hide (appendO_any T (⟨3, 9223372036854775807, ⟨4, 0, ByteArray.empty⟩⟩ : En) at_ T.length ct 256 wr (HP.out _ hS.out.u) hfT hxf (by omega))
        have l6 : (spL T 256 ((T.length : Int) + 1) [(⟨3, 9223372036854775807, ⟨4, 0, ByteArray.empty⟩⟩ : En)]).length ≤ T.length + 1 := spL_le _ _ _ _
        have l7 := ctL_le T (m : Int)
        have l8 := tlL_le T ((m : Int) + 1)
        have l9 : (spL T 256 ((m : Int) + 1) []).length ≤ T.length := spL_le _ _ _ _
        have l10 := pl_le T (m : Int)
        have l11 := rl_le T (m : Int)
        dsimp only at CA
        go_wp2_with fail
        refine CA.out.mono ?_
        rintro e w6 ⟨v6, rfl, o6, b6⟩
        obtain ⟨a6, c6, rfl, _, _⟩ := o6.sl kE
        have O6 := hide o6
        have S6 := hide (hS.out.bel b6)
        have z6 := b6.size
        clear o6 b6 CA k0 k1 k2 k3 k4
        have CC := hide (cutO_any T at_ T.length ct (m : Int) w6 (HP.out _ S6.out.u) (by omega))
        try dsimp only
        go_wp2_with fail
        refine CC.out.mono ?_
        rintro e w7 ⟨v7, rfl, o7, b7⟩
        obtain ⟨a7, c7, rfl, _, _⟩ := o7.sl kE
        have O7 := hide o7
        have P6 := hide (O6.out.grow b7)
        have S7 := hide (S6.out.bel b7)
        have z7 := b7.size
        clear o7 b7 CC S6
        have CC := hide (tailO_any T at_ T.length ct ((m : Int) + 1) w7 (HP.out _ S7.out.u) (by omega))
        try dsimp only
        go_wp2_with fail
        refine CC.out.mono ?_
        rintro e w8 ⟨v8, rfl, o8, b8⟩
        obtain ⟨a8, c8, rfl, _, _⟩ := o8.sl kE
        have O8 := hide o8
        have P7 := hide (O7.out.grow b8)
        have Q6 := hide (P6.out.grow b8)
        have S8 := hide (S7.out.bel b8)
        have z8 := b8.size
        clear o8 b8 CC S7 P6
        have CC := hide (spliceO_any T [] at_ none T.length ct 0 0 256 ((m : Int) + 1) w8 (HP.out _ S8.out.u) (SlY.empty _ _ _) hfT (fun e he => by cases he) (by omega))
        try dsimp only
        go_wp2_with fail
        refine CC.out.mono ?_
        rintro e w9 ⟨v9, rfl, o9, b9⟩
        obtain ⟨a9, c9, rfl, _, _⟩ := o9.sl kE
        have O9 := hide o9
        have P8 := hide (O8.out.grow b9)
        have Q7 := hide (P7.out.grow b9)
        have R6 := hide (Q6.out.grow b9)
        have S9 := hide (S8.out.bel b9)
        have z9 := b9.size
        clear o9 b9 CC S8 P7 Q6
        have CC := hide (replayO_any T at_ T.length ct (m : Int) w9 (HP.out _ S9.out.u) hfT (by omega))
        try dsimp only
        go_wp2_with fail
        refine CC.out.mono ?_
        rintro e w10 ⟨vc, vr, rfl, oc, orr, b10⟩
        have oc := oc.y
        have orr := own3_y orr
        obtain ⟨a10, c10, rfl, _, _⟩ := oc.sl kCl
        obtain ⟨a11, c11, rfl, _, _⟩ := orr.sl kRs
        have O10 := hide oc
        have O11 := hide orr
        have P9 := hide (O9.out.grow b10)
        have Q8 := hide (P8.out.grow b10)
        have R7 := hide (Q7.out.grow b10)
        have T6 := hide (R6.out.grow b10)
        have S10 := hide (S9.out.bel b10)
        have z10 := b10.size
        clear oc orr b10 CC S9 P8 Q7 R6
        have zr := hS.out.u.size
        have HF : Hid (F4 T (m : Int) = [spL T 256 ((T.length : Int) + 1) [(⟨3, 9223372036854775807, ⟨4, 0, ByteArray.empty⟩⟩ : En)], ctL T (m : Int), tlL T ((m : Int) + 1), spL T 256 ((m : Int) + 1) []]) := rfl
        generalize spL T 256 ((T.length : Int) + 1) [(⟨3, 9223372036854775807, ⟨4, 0, ByteArray.empty⟩⟩ : En)] = D6 at *
        generalize ctL T (m : Int) = D7 at *
        generalize tlL T ((m : Int) + 1) = D8 at *
        generalize spL T 256 ((m : Int) + 1) [] = D9 at *
        generalize pl [] (D7.map En.o) = D10 at *
        generalize rl [] (D7.map En.o) = D11 at *
        have ba : Below w10.heap.size w10 (w10.alloc (.cells #[.slice a6 D6.length c6, .slice a7 D7.length c7, .slice a8 D8.length c8, .slice a9 D9.length c9] 22)) := (Below.refl _ _).alloc (Nat.le_refl _) _
        have SB : Hid (SlY zE (w10.alloc (.cells #[.slice a6 D6.length c6, .slice a7 D7.length c7, .slice a8 D8.length c8, .slice a9 D9.length c9] 22)) (some ⟨w10.heap.size, 0, none⟩) 4 4 [⟨a6, c6, D6⟩, ⟨a7, c7, D7⟩, ⟨a8, c8, D8⟩, ⟨a9, c9, D9⟩]) := sl_lit kzE w10 [⟨a6, c6, D6⟩, ⟨a7, c7, D7⟩, ⟨a8, c8, D8⟩, ⟨a9, c9, D9⟩] 22 (by unfold maxLen; simp)
        have SA := hide (S10.out.bel ba)
        have T6' := hide (T6.out.grow ba)
        have R7' := hide (R7.out.grow ba)
        have Q8' := hide (Q8.out.grow ba)
        have P9' := hide (P9.out.grow ba)
        have N10 := hide (O10.out.grow ba)
        have N11 := hide (O11.out.grow ba)
        have zA : w5.heap.size ≤ (w10.alloc (.cells #[.slice a6 D6.length c6, .slice a7 D7.length c7, .slice a8 D8.length c8, .slice a9 D9.length c9] 22)).heap.size := SA.out.u.size
        clear ba S10 T6 R7 Q8 P9
        go_upto_region 23 with fail
        go_wp2_with (at_builtin; go_must (refine appY kzE _ rfl (.tmp 107) (.tmp 112) rfl w5.heap.size K vk rfl (some ⟨w10.heap.size, 0, none⟩) 4 4 rfl [⟨a6, c6, D6⟩, ⟨a7, c7, D7⟩, ⟨a8, c8, D8⟩, ⟨a9, c9, D9⟩] SB.out SA.out.k zA (by rw [hKl]; unfold maxLen; omega) (by show (_ + 4) * 24 ≤ _; rw [hKl]; omega) ?_))
        intro vk' w11 o11 g11 n11
        have hzz1 : ∀ {α : Type} {Y : Lay α} {B' : Nat} {v : Value} {l : List α}, OwnY Y B' _ v l → Y.T ≠ zE.T → OwnY Y B' w11 v l := fun ho hT => ho.grownZ SA.out.k hT g11
        have A6 := hide ((hzz1 T6'.out hTE).low (B' := wr.heap.size) (Nat.le_refl _))
        have A7 := hide (hzz1 R7'.out hTE)
        have A8 := hide (hzz1 Q8'.out hTE)
        have A9 := hide (hzz1 P9'.out hTE)
        have A10 := hide (hzz1 N10.out (by decide))
        have A11 := hide (hzz1 N11.out (by decide))
        have u11 : Upd (fun k => vk.ownBlock = some k) _ w11 := gupd g11 (fun k e => e)
        have S11 : Hid (OS (· = w3.heap.size + 1) w5 (w3.heap.size + 1) w.heap.size w11 vk' (K ++ [⟨a6, c6, D6⟩, ⟨a7, c7, D7⟩, ⟨a8, c8, D8⟩, ⟨a9, c9, D9⟩]) v1 v2 v3 V1 V2 V3 wr.heap.size wr.heap.size wr.heap.size) := by
          have hkb : ∀ k, vk.ownBlock = some k → w5.heap.size ≤ k := fun k e => (SA.out.k.blk k e).1
          have hb5 := SA.out.hb
          refine ⟨SA.out.hb, SA.out.hA, rfl, SA.out.u.trans26 u11 (fun i hi hs => by have := hkb i hs; omega), ⟨SA.out.g.e.upd u11 (fun hc => by have := hkb _ hc; omega) (fun g e hc => SA.out.ne g hc e) (fun x hx g e hc => (SA.out.g.e.ev x hx).1.apart SA.out.k hTE g e hc), SA.out.g.c.upd u11 (fun hc => by have := hkb _ hc; omega) (fun g e hc => SA.out.g.c.o.apart SA.out.k (by decide) g e hc) (fun x hx g e hc => (SA.out.g.c.ev x hx).1.apart SA.out.k (by decide) g e hc), SA.out.g.r.upd u11 (fun hc => by have := hkb _ hc; omega) (fun g e hc => SA.out.g.r.o.apart SA.out.k (by decide) g e hc) (fun x hx g e hc => (SA.out.g.r.ev x hx).1.apart SA.out.k (by decide) g e hc), fun i b1 b2 b3 b4 => (u11.cell (p := ⟨w3.heap.size + 1, i, none⟩) (Nat.lt_of_lt_of_le SA.out.g.e.lt SA.out.g.e.ltB) (fun hc => by have h9 : w5.heap.size ≤ w3.heap.size + 1 := hkb _ hc; omega)).trans (SA.out.g.ce i b1 b2 b3 b4)⟩, o11, fun y hy => ?_, fun g e e' => ?_, SA.out.m1, SA.out.m2, SA.out.m3⟩
          · rcases List.mem_append.1 hy with hy | hy
            · exact hzz1 (SA.out.ke y hy) hTE
            · simp at hy
              rcases hy with rfl | rfl | rfl | rfl
              · exact A6.out.low (by omega)
              · exact A7.out.low (by omega)
              · exact A8.out.low (by omega)
              · exact A9.out.low (by omega)
          · rcases n11 with n11 | ⟨k', h1, h2⟩
            · exact SA.out.ne g (n11.symm.trans e) e'
            · rw [h1] at e
              cases e
              have h3 := (SA.out.g.e.o.blk _ e').2
              simp only [World.size_alloc] at h3
              omega
        have z11 := g11.size
        simp only [World.size_alloc] at z11
        have hKm : Hid ((K ++ [(⟨a6, c6, D6⟩ : SV En), ⟨a7, c7, D7⟩, ⟨a8, c8, D8⟩, ⟨a9, c9, D9⟩]).map (·.D) = K.map (·.D) ++ F4 T (m : Int)) := by show _ = _; rw [List.map_append, HF.out]; rfl
        have hKl2 : (K ++ [(⟨a6, c6, D6⟩ : SV En), ⟨a7, c7, D7⟩, ⟨a8, c8, D8⟩, ⟨a9, c9, D9⟩]).length = 4 * (2) := by rw [List.length_append, hKl]; show _ + 4 = _; omega
        generalize K ++ [(⟨a6, c6, D6⟩ : SV En), ⟨a7, c7, D7⟩, ⟨a8, c8, D8⟩, ⟨a9, c9, D9⟩] = K2 at *
        clear n11 u11 g11 o11 hzz1 SA SB zA HF T6' R7' Q8' P9' N10 N11
        have cb := hide (S11.out.bookE' (lim := wr.heap.size) (lim' := w6.heap.size) A6.out (Nat.le_refl _) zr z6 (by omega) (by omega) (fun z e => (O6.out.slb e).2))
        try dsimp only
        go_wp2_with fail
        refine cb.out.mono ?_
        rintro e w12 ⟨rfl, v12, V12, s12, h12, u12⟩
        have hn12 : w3.heap.size + 1 < w6.heap.size := by have := hS.out.hb; omega
        have B7 := hide (own_beside A7.out hn12 S11.out.g.e.o (by decide) u12)
        have B8 := hide (own_beside A8.out (by omega : w3.heap.size + 1 < w7.heap.size) S11.out.g.e.o (by decide) u12)
        have B9 := hide (own_beside A9.out (by omega : w3.heap.size + 1 < w8.heap.size) S11.out.g.e.o (by decide) u12)
        have B10 := hide (own_beside A10.out (by omega : w3.heap.size + 1 < w9.heap.size) S11.out.g.e.o (by decide) u12)
        have B11 := hide (own_beside A11.out (by omega : w3.heap.size + 1 < w9.heap.size) S11.out.g.e.o (by decide) u12)
        have S12 := hide s12
        have z12 := u12.size
        clear cb s12 u12 S11 A6 A7 A8 A9 A10 A11
        have cb := hide (S12.out.bookE' (lim := w6.heap.size) (lim' := w7.heap.size) B7.out (Nat.le_refl _) (by omega) z7 (by omega) (by omega) (fun z e => (O7.out.slb e).2))
        try dsimp only
        go_wp2_with fail
        refine cb.out.mono ?_
        rintro e w13 ⟨rfl, v13, V13, s13, h13, u13⟩
        have C8 := hide (own_beside B8.out (by omega : w3.heap.size + 1 < w7.heap.size) S12.out.g.e.o (by decide) u13)
        have C9 := hide (own_beside B9.out (by omega : w3.heap.size + 1 < w8.heap.size) S12.out.g.e.o (by decide) u13)
        have C10 := hide (own_beside B10.out (by omega : w3.heap.size + 1 < w9.heap.size) S12.out.g.e.o (by decide) u13)
        have C11 := hide (own_beside B11.out (by omega : w3.heap.size + 1 < w9.heap.size) S12.out.g.e.o (by decide) u13)
        have S13 := hide s13
        have z13 := u13.size
        clear cb s13 u13 S12 B7 B8 B9 B10 B11
        have cb := hide (S13.out.bookE' (lim := w7.heap.size) (lim' := w8.heap.size) C8.out (Nat.le_refl _) (by omega) z8 (by omega) (by omega) (fun z e => (O8.out.slb e).2))
        try dsimp only
        go_wp2_with fail
        refine cb.out.mono ?_
        rintro e w14 ⟨rfl, v14, V14, s14, h14, u14⟩
        have E9 := hide (own_beside C9.out (by omega : w3.heap.size + 1 < w8.heap.size) S13.out.g.e.o (by decide) u14)
        have E10 := hide (own_beside C10.out (by omega : w3.heap.size + 1 < w9.heap.size) S13.out.g.e.o (by decide) u14)
        have E11 := hide (own_beside C11.out (by omega : w3.heap.size + 1 < w9.heap.size) S13.out.g.e.o (by decide) u14)
        have S14 := hide s14
        have z14 := u14.size
        clear cb s14 u14 S13 C8 C9 C10 C11
        have cb := hide (S14.out.bookE' (lim := w8.heap.size) (lim' := w9.heap.size) E9.out (Nat.le_refl _) (by omega) z9 (by omega) (by omega) (fun z e => (O9.out.slb e).2))
        try dsimp only
        go_wp2_with fail
        refine cb.out.mono ?_
        rintro e w15 ⟨rfl, v15, V15, s15, h15, u15⟩
        have F10 := hide (own_beside E10.out (by omega : w3.heap.size + 1 < w9.heap.size) S14.out.g.e.o (by decide) u15)
        have F11 := hide (own_beside E11.out (by omega : w3.heap.size + 1 < w9.heap.size) S14.out.g.e.o (by decide) u15)
        have S15 := hide s15
        have z15 := u15.size
        clear cb s15 u15 S14 E9 E10 E11
        have cb := hide (S15.out.bookC (lim := w9.heap.size) (lim' := w10.heap.size) F10.out (by omega) (by omega) z10 (by omega) (by omega) (fun z e => (O10.out.slb e).2))
        try dsimp only
        go_wp2_with fail
        refine cb.out.mono ?_
        rintro e w16 ⟨rfl, v16, V16, s16, h16, u16⟩
        have G11 := hide (own_beside F11.out (by omega : w3.heap.size + 1 < w9.heap.size) S15.out.g.c.o (by decide) u16)
        have S16 := hide s16
        have z16 := u16.size
        clear cb s16 u16 S15 F10 F11
        have cb := hide (S16.out.bookR (lim := w9.heap.size) (lim' := w10.heap.size) G11.out (by omega) (by omega) z10 (by omega) (by omega) (fun z e => (O11.out.slb e).2))
        try dsimp only
        go_wp2_with fail
        refine cb.out.mono ?_
        rintro e w17 ⟨rfl, v17, V17, s17, h17, u17⟩
        have z17 := u17.size
        clear u17
        have S17 := hide (s17.lim (l1' := w17.heap.size) (l2' := w17.heap.size) (l3' := w17.heap.size) (by omega) (by omega) (by omega))
        clear cb s17 S16 G11 O6 O7 O8 O9 O10 O11
        try dsimp only
        go_wp2
        go_round
        case rel => exact ⟨2, vk', K2, _, _, _, _, _, _, by go_num, rfl, by omega, S17, hKl2, (by rw [hKm.out]; exact hKF.out.other rfl), by omega, by omega, by omega⟩
        case measure => first | (simp [intOf]; done) | (simp [intOf]; omega)
      · have hb2 : ((i0 : Int) == 1) = false := by simp; omega
        have hb3 : ¬ (i0 : Int) = 1 := by omega
        have HP : Hid (∀ v, Upd (· = w3.heap.size + 1) w5 v → SlY yE v ao L.length co L) := fun v u => (OO.out.upd1 u (fun g e hc => by have h8 := (OO.out.blk g e).1; have h9 : g = w3.heap.size + 1 := hc; omega)).sl' kE
        have hw1 : IntKind.i64.wrap ((n : Int) + 1) = (n : Int) + 1 := by rw [IntKind.wrap_i64]; omega
        obtain ⟨k0, k1, k2, k3, k4⟩ := KX.out wr hS.out.u
        have CA := hide (appendO_any L (⟨3, 9223372036854775807, ⟨4, 0, ByteArray.empty⟩⟩ : En) ao L.length co 256 wr (HP.out _ hS.out.u) hfL hxf (by omega))
        have l6 : (spL L 256 ((L.length : Int) + 1) [(⟨3, 9223372036854775807, ⟨4, 0, ByteArray.empty⟩⟩ : En)]).length ≤ L.length + 1 := spL_le _ _ _ _
        have l7 := ctL_le L (n : Int)
        have l8 := tlL_le L ((n : Int) + 1)
        have l9 : (spL L 256 ((n : Int) + 1) []).length ≤ L.length := spL_le _ _ _ _
        have l10 := pl_le L (n : Int)
        have l11 := rl_le L (n : Int)
        dsimp only at CA
        go_wp2_with fail
        refine CA.out.mono ?_
        rintro e w6 ⟨v6, rfl, o6, b6⟩
        obtain ⟨a6, c6, rfl, _, _⟩ := o6.sl kE
        have O6 := hide o6
        have S6 := hide (hS.out.bel b6)
        have z6 := b6.size
        clear o6 b6 CA k0 k1 k2 k3 k4
        have CC := hide (cutO_any L ao L.length co (n : Int) w6 (HP.out _ S6.out.u) (by omega))
        try dsimp only
        go_wp2_with fail
        refine CC.out.mono ?_
        rintro e w7 ⟨v7, rfl, o7, b7⟩
        obtain ⟨a7, c7, rfl, _, _⟩ := o7.sl kE
        have O7 := hide o7
        have P6 := hide (O6.out.grow b7)
        have S7 := hide (S6.out.bel b7)
        have z7 := b7.size
        clear o7 b7 CC S6
        have CC := hide (tailO_any L ao L.length co ((n : Int) + 1) w7 (HP.out _ S7.out.u) (by omega))
        try dsimp only
        go_wp2_with fail
        refine CC.out.mono ?_
        rintro e w8 ⟨v8, rfl, o8, b8⟩
        obtain ⟨a8, c8, rfl, _, _⟩ := o8.sl kE
        have O8 := hide o8
        have P7 := hide (O7.out.grow b8)
        have Q6 := hide (P6.out.grow b8)
        have S8 := hide (S7.out.bel b8)
        have z8 := b8.size
        clear o8 b8 CC S7 P6
        have CC := hide (spliceO_any L [] ao none L.length co 0 0 256 ((n : Int) + 1) w8 (HP.out _ S8.out.u) (SlY.empty _ _ _) hfL (fun e he => by cases he) (by omega))
        try dsimp only
        go_wp2_with fail
        refine CC.out.mono ?_
        rintro e w9 ⟨v9, rfl, o9, b9⟩
        obtain ⟨a9, c9, rfl, _, _⟩ := o9.sl kE
        have O9 := hide o9
        have P8 := hide (O8.out.grow b9)
        have Q7 := hide (P7.out.grow b9)
        have R6 := hide (Q6.out.grow b9)
        have S9 := hide (S8.out.bel b9)
        have z9 := b9.size
        clear o9 b9 CC S8 P7 Q6
        have CC := hide (replayO_any L ao L.length co (n : Int) w9 (HP.out _ S9.out.u) hfL (by omega))
        try dsimp only
        go_wp2_with fail
        refine CC.out.mono ?_
        rintro e w10 ⟨vc, vr, rfl, oc, orr, b10⟩
        have oc := oc.y
        have orr := own3_y orr
        obtain ⟨a10, c10, rfl, _, _⟩ := oc.sl kCl
        obtain ⟨a11, c11, rfl, _, _⟩ := orr.sl kRs
        have O10 := hide oc
        have O11 := hide orr
        have P9 := hide (O9.out.grow b10)
        have Q8 := hide (P8.out.grow b10)
        have R7 := hide (Q7.out.grow b10)
        have T6 := hide (R6.out.grow b10)
        have S10 := hide (S9.out.bel b10)
        have z10 := b10.size
        clear oc orr b10 CC S9 P8 Q7 R6
        have zr := hS.out.u.size
        have HF : Hid (F4 L (n : Int) = [spL L 256 ((L.length : Int) + 1) [(⟨3, 9223372036854775807, ⟨4, 0, ByteArray.empty⟩⟩ : En)], ctL L (n : Int), tlL L ((n : Int) + 1), spL L 256 ((n : Int) + 1) []]) := rfl
        generalize spL L 256 ((L.length : Int) + 1) [(⟨3, 9223372036854775807, ⟨4, 0, ByteArray.empty⟩⟩ : En)] = D6 at *
        generalize ctL L (n : Int) = D7 at *
        generalize tlL L ((n : Int) + 1) = D8 at *
        generalize spL L 256 ((n : Int) + 1) [] = D9 at *
        generalize pl [] (D7.map En.o) = D10 at *
        generalize rl [] (D7.map En.o) = D11 at *
        have ba : Below w10.heap.size w10 (w10.alloc (.cells #[.slice a6 D6.length c6, .slice a7 D7.length c7, .slice a8 D8.length c8, .slice a9 D9.length c9] 22)) := (Below.refl _ _).alloc (Nat.le_refl _) _
        have SB : Hid (SlY zE (w10.alloc (.cells #[.slice a6 D6.length c6, .slice a7 D7.length c7, .slice a8 D8.length c8, .slice a9 D9.length c9] 22)) (some ⟨w10.heap.size, 0, none⟩) 4 4 [⟨a6, c6, D6⟩, ⟨a7, c7, D7⟩, ⟨a8, c8, D8⟩, ⟨a9, c9, D9⟩]) := sl_lit kzE w10 [⟨a6, c6, D6⟩, ⟨a7, c7, D7⟩, ⟨a8, c8, D8⟩, ⟨a9, c9, D9⟩] 22 (by unfold maxLen; simp)
        have SA := hide (S10.out.bel ba)
        have T6' := hide (T6.out.grow ba)
        have R7' := hide (R7.out.grow ba)
        have Q8' := hide (Q8.out.grow ba)
        have P9' := hide (P9.out.grow ba)
        have N10 := hide (O10.out.grow ba)
        have N11 := hide (O11.out.grow ba)
        have zA : w5.heap.size ≤ (w10.alloc (.cells #[.slice a6 D6.length c6, .slice a7 D7.length c7, .slice a8 D8.length c8, .slice a9 D9.length c9] 22)).heap.size := SA.out.u.size
        clear ba S10 T6 R7 Q8 P9
        go_upto_region 23 with fail
        go_wp2_with (at_builtin; go_must (refine appY kzE _ rfl (.tmp 107) (.tmp 112) rfl w5.heap.size K vk rfl (some ⟨w10.heap.size, 0, none⟩) 4 4 rfl [⟨a6, c6, D6⟩, ⟨a7, c7, D7⟩, ⟨a8, c8, D8⟩, ⟨a9, c9, D9⟩] SB.out SA.out.k zA (by rw [hKl]; unfold maxLen; omega) (by show (_ + 4) * 24 ≤ _; rw [hKl]; omega) ?_))
        intro vk' w11 o11 g11 n11
        have hzz1 : ∀ {α : Type} {Y : Lay α} {B' : Nat} {v : Value} {l : List α}, OwnY Y B' _ v l → Y.T ≠ zE.T → OwnY Y B' w11 v l := fun ho hT => ho.grownZ SA.out.k hT g11
        have A6 := hide ((hzz1 T6'.out hTE).low (B' := wr.heap.size) (Nat.le_refl _))
        have A7 := hide (hzz1 R7'.out hTE)
        have A8 := hide (hzz1 Q8'.out hTE)
        have A9 := hide (hzz1 P9'.out hTE)
        have A10 := hide (hzz1 N10.out (by decide))
        have A11 := hide (hzz1 N11.out (by decide))
        have u11 : Upd (fun k => vk.ownBlock = some k) _ w11 := gupd g11 (fun k e => e)
        have S11 : Hid (OS (· = w3.heap.size + 1) w5 (w3.heap.size + 1) w.heap.size w11 vk' (K ++ [⟨a6, c6, D6⟩, ⟨a7, c7, D7⟩, ⟨a8, c8, D8⟩, ⟨a9, c9, D9⟩]) v1 v2 v3 V1 V2 V3 wr.heap.size wr.heap.size wr.heap.size) := by
          have hkb : ∀ k, vk.ownBlock = some k → w5.heap.size ≤ k := fun k e => (SA.out.k.blk k e).1
          have hb5 := SA.out.hb
          refine ⟨SA.out.hb, SA.out.hA, rfl, SA.out.u.trans26 u11 (fun i hi hs => by have := hkb i hs; omega), ⟨SA.out.g.e.upd u11 (fun hc => by have := hkb _ hc; omega) (fun g e hc => SA.out.ne g hc e) (fun x hx g e hc => (SA.out.g.e.ev x hx).1.apart SA.out.k hTE g e hc), SA.out.g.c.upd u11 (fun hc => by have := hkb _ hc; omega) (fun g e hc => SA.out.g.c.o.apart SA.out.k (by decide) g e hc) (fun x hx g e hc => (SA.out.g.c.ev x hx).1.apart SA.out.k (by decide) g e hc), SA.out.g.r.upd u11 (fun hc => by have := hkb _ hc; omega) (fun g e hc => SA.out.g.r.o.apart SA.out.k (by decide) g e hc) (fun x hx g e hc => (SA.out.g.r.ev x hx).1.apart SA.out.k (by decide) g e hc), fun i b1 b2 b3 b4 => (u11.cell (p := ⟨w3.heap.size + 1, i, none⟩) (Nat.lt_of_lt_of_le SA.out.g.e.lt SA.out.g.e.ltB) (fun hc => by have h9 : w5.heap.size ≤ w3.heap.size + 1 := hkb _ hc; omega)).trans (SA.out.g.ce i b1 b2 b3 b4)⟩, o11, fun y hy => ?_, fun g e e' => ?_, SA.out.m1, SA.out.m2, SA.out.m3⟩
          · rcases List.mem_append.1 hy with hy | hy
            · exact hzz1 (SA.out.ke y hy) hTE
            · simp at hy
              rcases hy with rfl | rfl | rfl | rfl
              · exact A6.out.low (by omega)
              · exact A7.out.low (by omega)
              · exact A8.out.low (by omega)
              · exact A9.out.low (by omega)
          · rcases n11 with n11 | ⟨k', h1, h2⟩
            · exact SA.out.ne g (n11.symm.trans e) e'
            · rw [h1] at e
              cases e
              have h3 := (SA.out.g.e.o.blk _ e').2
              simp only [World.size_alloc] at h3
              omega
        have z11 := g11.size
        simp only [World.size_alloc] at z11
        have hKm : Hid ((K ++ [(⟨a6, c6, D6⟩ : SV En), ⟨a7, c7, D7⟩, ⟨a8, c8, D8⟩, ⟨a9, c9, D9⟩]).map (·.D) = K.map (·.D) ++ F4 L (n : Int)) := by show _ = _; rw [List.map_append, HF.out]; rfl
        have hKl2 : (K ++ [(⟨a6, c6, D6⟩ : SV En), ⟨a7, c7, D7⟩, ⟨a8, c8, D8⟩, ⟨a9, c9, D9⟩]).length = 4 * (i0 + 1) := by rw [List.length_append, hKl]; show _ + 4 = _; omega
        generalize K ++ [(⟨a6, c6, D6⟩ : SV En), ⟨a7, c7, D7⟩, ⟨a8, c8, D8⟩, ⟨a9, c9, D9⟩] = K2 at *
        clear n11 u11 g11 o11 hzz1 SA SB zA HF T6' R7' Q8' P9' N10 N11
        have cb := hide (S11.out.bookE' (lim := wr.heap.size) (lim' := w6.heap.size) A6.out (Nat.le_refl _) zr z6 (by omega) (by omega) (fun z e => (O6.out.slb e).2))
        try dsimp only
        go_wp2_with fail
        refine cb.out.mono ?_
        rintro e w12 ⟨rfl, v12, V12, s12, h12, u12⟩
        have hn12 : w3.heap.size + 1 < w6.heap.size := by have := hS.out.hb; omega
        have B7 := hide (own_beside A7.out hn12 S11.out.g.e.o (by decide) u12)
        have B8 := hide (own_beside A8.out (by omega : w3.heap.size + 1 < w7.heap.size) S11.out.g.e.o (by decide) u12)
        have B9 := hide (own_beside A9.out (by omega : w3.heap.size + 1 < w8.heap.size) S11.out.g.e.o (by decide) u12)
        have B10 := hide (own_beside A10.out (by omega : w3.heap.size + 1 < w9.heap.size) S11.out.g.e.o (by decide) u12)
        have B11 := hide (own_beside A11.out (by omega : w3.heap.size + 1 < w9.heap.size) S11.out.g.e.o (by decide) u12)
        have S12 := hide s12
        have z12 := u12.size
        clear cb s12 u12 S11 A6 A7 A8 A9 A10 A11
        have cb := hide (S12.out.bookE' (lim := w6.heap.size) (lim' := w7.heap.size) B7.out (Nat.le_refl _) (by omega) z7 (by omega) (by omega) (fun z e => (O7.out.slb e).2))
        try dsimp only
        go_wp2_with fail
        refine cb.out.mono ?_
        rintro e w13 ⟨rfl, v13, V13, s13, h13, u13⟩
        have C8 := hide (own_beside B8.out (by omega : w3.heap.size + 1 < w7.heap.size) S12.out.g.e.o (by decide) u13)
        have C9 := hide (own_beside B9.out (by omega : w3.heap.size + 1 < w8.heap.size) S12.out.g.e.o (by decide) u13)
        have C10 := hide (own_beside B10.out (by omega : w3.heap.size + 1 < w9.heap.size) S12.out.g.e.o (by decide) u13)
        have C11 := hide (own_beside B11.out (by omega : w3.heap.size + 1 < w9.heap.size) S12.out.g.e.o (by decide) u13)
        have S13 := hide s13
        have z13 := u13.size
        clear cb s13 u13 S12 B7 B8 B9 B10 B11
        have cb := hide (S13.out.bookE' (lim := w7.heap.size) (lim' := w8.heap.size) C8.out (Nat.le_refl _) (by omega) z8 (by omega) (by omega) (fun z e => (O8.out.slb e).2))
        try dsimp only
        go_wp2_with fail
        refine cb.out.mono ?_
        rintro e w14 ⟨rfl, v14, V14, s14, h14, u14⟩
        have E9 := hide (own_beside C9.out (by omega : w3.heap.size + 1 < w8.heap.size) S13.out.g.e.o (by decide) u14)
        have E10 := hide (own_beside C10.out (by omega : w3.heap.size + 1 < w9.heap.size) S13.out.g.e.o (by decide) u14)
        have E11 := hide (own_beside C11.out (by omega : w3.heap.size + 1 < w9.heap.size) S13.out.g.e.o (by decide) u14)
        have S14 := hide s14
        have z14 := u14.size
        clear cb s14 u14 S13 C8 C9 C10 C11
        have cb := hide (S14.out.bookE' (lim := w8.heap.size) (lim' := w9.heap.size) E9.out (Nat.le_refl _) (by omega) z9 (by omega) (by omega) (fun z e => (O9.out.slb e).2))
        try dsimp only
        go_wp2_with fail
        refine cb.out.mono ?_
        rintro e w15 ⟨rfl, v15, V15, s15, h15, u15⟩
        have F10 := hide (own_beside E10.out (by omega : w3.heap.size + 1 < w9.heap.size) S14.out.g.e.o (by decide) u15)
        have F11 := hide (own_beside E11.out (by omega : w3.heap.size + 1 < w9.heap.size) S14.out.g.e.o (by decide) u15)
        have S15 := hide s15
        have z15 := u15.size
        clear cb s15 u15 S14 E9 E10 E11
        have cb := hide (S15.out.bookC (lim := w9.heap.size) (lim' := w10.heap.size) F10.out (by omega) (by omega) z10 (by omega) (by omega) (fun z e => (O10.out.slb e).2))
        try dsimp only
        go_wp2_with fail
        refine cb.out.mono ?_
        rintro e w16 ⟨rfl, v16, V16, s16, h16, u16⟩
        have G11 := hide (own_beside F11.out (by omega : w3.heap.size + 1 < w9.heap.size) S15.out.g.c.o (by decide) u16)
        have S16 := hide s16
        have z16 := u16.size
        clear cb s16 u16 S15 F10 F11
        have cb := hide (S16.out.bookR (lim := w9.heap.size) (lim' := w10.heap.size) G11.out (by omega) (by omega) z10 (by omega) (by omega) (fun z e => (O11.out.slb e).2))
        try dsimp only
        go_wp2_with fail
        refine cb.out.mono ?_
        rintro e w17 ⟨rfl, v17, V17, s17, h17, u17⟩
        have z17 := u17.size
        clear u17
        have S17 := hide (s17.lim (l1' := w17.heap.size) (l2' := w17.heap.size) (l3' := w17.heap.size) (by omega) (by omega) (by omega))
        clear cb s17 S16 G11 O6 O7 O8 O9 O10 O11
        try dsimp only
        go_wp2
        go_round
        case rel => exact ⟨i0 + 1, vk', K2, _, _, _, _, _, _, by go_num, rfl, by omega, S17, hKl2, (by rw [hKm.out]; exact hKF.out.own (by omega) rfl), by omega, by omega, by omega⟩
        case measure => first | (simp [intOf]; done) | (simp [intOf]; omega)
    · obtain rfl : i0 = 3 := by omega
      obtain ⟨w5e, hw5e⟩ : ∃ w5e, w5e = wr := ⟨_, rfl⟩
      subst hw5e
      have hz3 : ((3 : Nat) : Int) = 3 := rfl
      rw [hz3]
      have hKl : K.length = 12 := by omega
      obtain ⟨akk, ck, hvk, hck12, hckm, hnn, hss⟩ := hS.out.k.form
      rw [hKl] at hvk hck12
      subst hvk
      obtain ⟨gk, rfl⟩ : ∃ gk, akk = some ⟨gk, 0, none⟩ := by
        cases akk with
        | none => have := (hnn rfl).1; rw [this] at hKl; simp at hKl
        | some z => obtain ⟨g, rfl, _⟩ := hss z rfl; exact ⟨g, rfl⟩
      unfold maxLen at hckm
      have SE := hS
      have KE : Hid (∀ j, j < 4 → ∃ x y, K[j]? = some x ∧ K[8 + j]? = some y ∧ x.D = y.D) := fun j hj => by
        have e1 := List.getElem?_eq_getElem (l := K) (i := j) (by omega)
        have e2 := List.getElem?_eq_getElem (l := K) (i := 8 + j) (by omega)
        refine ⟨_, _, e1, e2, ?_⟩
        have t1 := congrArg (fun l => l[j]?) (hKF.out.1 (by omega))
        have t2 := congrArg (fun l => l[j]?) (hKF.out.2.1 rfl)
        simp only [List.getElem?_take_of_lt hj, List.getElem?_drop, List.getElem?_map, e1, e2, Option.map_some] at t1 t2
        exact Option.some.inj (t1.trans t2.symm)
      have hsz5 := hS.out.u.size
      go_wp2_with fail
      go_loopw [30] (fun i wr => ∃ j : Nat, i = .int .i64 (j : Int) ∧ j ≤ 4 ∧ Hid (Below w5e.heap.size w5e wr)) (fun i _ => 4 - (intOf i).toNat)
      case atStart => exact ⟨0, rfl, by omega, Below.refl _ _⟩
      case round =>
        obtain ⟨j, rfl, hj, hB⟩ := hrel
        by_cases hj0 : j = 0
        · subst hj0
          have hz : ((0 : Nat) : Int) = 0 := rfl
          rw [hz]
          have hw8 : IntKind.i64.wrap ((8 : Int) + 0) = 8 := by decide
          have hw9 : IntKind.i64.wrap (8 : Int) = 8 := by decide
          obtain ⟨x, y, hx, hy, hxy⟩ := KE.out 0 (by omega)
          have cx := SE.out.k.cell kzE 0 x hx 0 _ rfl
          have cy := SE.out.k.cell kzE (8 + 0) y hy 0 _ rfl
          have KS : Hid (∀ v, Below w5e.heap.size w5e v → v.cell? ⟨gk, 0, none⟩ = some (.slice x.a x.D.length x.c) ∧ v.cell? ⟨gk, 8, none⟩ = some (.slice y.a x.D.length y.c)) := fun v hv => by
            have hgk := (SE.out.k.blk gk rfl).2
            refine ⟨(hv.cell (p := ⟨gk, 0, none⟩) hgk).trans (by simpa [zE, yS] using cx), (hv.cell (p := ⟨gk, 8, none⟩) hgk).trans (by simpa [zE, yS, hxy] using cy)⟩
          have sx := (SE.out.ke x (List.mem_of_getElem? hx)).sl' kE
          have sy := (SE.out.ke y (List.mem_of_getElem? hy)).sl' kE
          rw [← hxy] at sy
          have CS := hide (fun W (hW : Below w5e.heap.size w5e W) => sameents_any x.D x.a y.a x.c y.c W (sx.later hW) (sy.later hW))
          have s0 := KS.out _ hB.out.drew
          clear cx cy sx sy hx hy hxy
          generalize x.D.length = lx at *
          generalize x.a = xa at *
          generalize y.a = ya at *
          generalize x.c = xc at *
          generalize y.c = yc at *
          go_wp2_with fail
          go_region_held3 (fun v => v.cell? ⟨gk, 0, none⟩ = some (.slice xa lx xc) ∧ v.cell? ⟨gk, 8, none⟩ = some (.slice ya lx yc)) (with_reducible assumption) (first
            | (go_at_call 23; refine (CS.out _ hB.out.drew).mono ?_; rintro e w41 ⟨rfl, kk41, hw41⟩; have D41 : Hid (Below w5e.heap.size w5e w41) := (by show Below _ _ _; rw [hw41]; exact belN hB.out.drew kk41); clear hw41; have t41 := KS.out _ D41.out))
          go_wp2
          go_round
          case rel => exact ⟨0 + 1, by go_num, by omega, D41⟩
          case measure => first | (simp [intOf]; done) | (simp [intOf]; omega)
        by_cases hj1 : j = 1
        · subst hj1
          have hz : ((1 : Nat) : Int) = 1 := rfl
          rw [hz]
          have hw8 : IntKind.i64.wrap ((8 : Int) + 1) = 9 := by decide
          have hw9 : IntKind.i64.wrap (9 : Int) = 9 := by decide
          obtain ⟨x, y, hx, hy, hxy⟩ := KE.out 1 (by omega)
          have cx := SE.out.k.cell kzE 1 x hx 0 _ rfl
          have cy := SE.out.k.cell kzE (8 + 1) y hy 0 _ rfl
          have KS : Hid (∀ v, Below w5e.heap.size w5e v → v.cell? ⟨gk, 1, none⟩ = some (.slice x.a x.D.length x.c) ∧ v.cell? ⟨gk, 9, none⟩ = some (.slice y.a x.D.length y.c)) := fun v hv => by
            have hgk := (SE.out.k.blk gk rfl).2
            refine ⟨(hv.cell (p := ⟨gk, 1, none⟩) hgk).trans (by simpa [zE, yS] using cx), (hv.cell (p := ⟨gk, 9, none⟩) hgk).trans (by simpa [zE, yS, hxy] using cy)⟩
          have sx := (SE.out.ke x (List.mem_of_getElem? hx)).sl' kE
          have sy := (SE.out.ke y (List.mem_of_getElem? hy)).sl' kE
          rw [← hxy] at sy
          have CS := hide (fun W (hW : Below w5e.heap.size w5e W) => sameents_any x.D x.a y.a x.c y.c W (sx.later hW) (sy.later hW))
          have s0 := KS.out _ hB.out.drew
          clear cx cy sx sy hx hy hxy
          generalize x.D.length = lx at *
          generalize x.a = xa at *
          generalize y.a = ya at *
          generalize x.c = xc at *
          generalize y.c = yc at *
          go_wp2_with fail
          go_region_held3 (fun v => v.cell? ⟨gk, 1, none⟩ = some (.slice xa lx xc) ∧ v.cell? ⟨gk, 9, none⟩ = some (.slice ya lx yc)) (with_reducible assumption) (first
            | (go_at_call 23; refine (CS.out _ hB.out.drew).mono ?_; rintro e w41 ⟨rfl, kk41, hw41⟩; have D41 : Hid (Below w5e.heap.size w5e w41) := (by show Below _ _ _; rw [hw41]; exact belN hB.out.drew kk41); clear hw41; have t41 := KS.out _ D41.out))
          go_wp2
          go_round
          case rel => exact ⟨1 + 1, by go_num, by omega, D41⟩
          case measure => first | (simp [intOf]; done) | (simp [intOf]; omega)
        by_cases hj2 : j = 2
        · subst hj2
          have hz : ((2 : Nat) : Int) = 2 := rfl
          rw [hz]
          have hw8 : IntKind.i64.wrap ((8 : Int) + 2) = 10 := by decide
          have hw9 : IntKind.i64.wrap (10 : Int) = 10 := by decide
          obtain ⟨x, y, hx, hy, hxy⟩ := KE.out 2 (by omega)
          have cx := SE.out.k.cell kzE 2 x hx 0 _ rfl
          have cy := SE.out.k.cell kzE (8 + 2) y hy 0 _ rfl
          have KS : Hid (∀ v, Below w5e.heap.size w5e v → v.cell? ⟨gk, 2, none⟩ = some (.slice x.a x.D.length x.c) ∧ v.cell? ⟨gk, 10, none⟩ = some (.slice y.a x.D.length y.c)) := fun v hv => by
            have hgk := (SE.out.k.blk gk rfl).2
            refine ⟨(hv.cell (p := ⟨gk, 2, none⟩) hgk).trans (by simpa [zE, yS] using cx), (hv.cell (p := ⟨gk, 10, none⟩) hgk).trans (by simpa [zE, yS, hxy] using cy)⟩
          have sx := (SE.out.ke x (List.mem_of_getElem? hx)).sl' kE
          have sy := (SE.out.ke y (List.mem_of_getElem? hy)).sl' kE
          rw [← hxy] at sy
          have CS := hide (fun W (hW : Below w5e.heap.size w5e W) => sameents_any x.D x.a y.a x.c y.c W (sx.later hW) (sy.later hW))
          have s0 := KS.out _ hB.out.drew
          clear cx cy sx sy hx hy hxy
          generalize x.D.length = lx at *
          generalize x.a = xa at *
          generalize y.a = ya at *
          generalize x.c = xc at *
          generalize y.c = yc at *
          go_wp2_with fail
          go_region_held3 (fun v => v.cell? ⟨gk, 2, none⟩ = some (.slice xa lx xc) ∧ v.cell? ⟨gk, 10, none⟩ = some (.slice ya lx yc)) (with_reducible assumption) (first
            | (go_at_call 23; refine (CS.out _ hB.out.drew).mono ?_; rintro e w41 ⟨rfl, kk41, hw41⟩; have D41 : Hid (Below w5e.heap.size w5e w41) := (by show Below _ _ _; rw [hw41]; exact belN hB.out.drew kk41); clear hw41; have t41 := KS.out _ D41.out))
          go_wp2
          go_round
          case rel => exact ⟨2 + 1, by go_num, by omega, D41⟩
          case measure => first | (simp [intOf]; done) | (simp [intOf]; omega)
        by_cases hj3 : j = 3
        · subst hj3
          have hz : ((3 : Nat) : Int) = 3 := rfl
          rw [hz]
          have hw8 : IntKind.i64.wrap ((8 : Int) + 3) = 11 := by decide
          have hw9 : IntKind.i64.wrap (11 : Int) = 11 := by decide
          obtain ⟨x, y, hx, hy, hxy⟩ := KE.out 3 (by omega)
          have cx := SE.out.k.cell kzE 3 x hx 0 _ rfl
          have cy := SE.out.k.cell kzE (8 + 3) y hy 0 _ rfl
          have KS : Hid (∀ v, Below w5e.heap.size w5e v → v.cell? ⟨gk, 3, none⟩ = some (.slice x.a x.D.length x.c) ∧ v.cell? ⟨gk, 11, none⟩ = some (.slice y.a x.D.length y.c)) := fun v hv => by
            have hgk := (SE.out.k.blk gk rfl).2
            refine ⟨(hv.cell (p := ⟨gk, 3, none⟩) hgk).trans (by simpa [zE, yS] using cx), (hv.cell (p := ⟨gk, 11, none⟩) hgk).trans (by simpa [zE, yS, hxy] using cy)⟩
          have sx := (SE.out.ke x (List.mem_of_getElem? hx)).sl' kE
          have sy := (SE.out.ke y (List.mem_of_getElem? hy)).sl' kE
          rw [← hxy] at sy
          have CS := hide (fun W (hW : Below w5e.heap.size w5e W) => sameents_any x.D x.a y.a x.c y.c W (sx.later hW) (sy.later hW))
          have s0 := KS.out _ hB.out.drew
          clear cx cy sx sy hx hy hxy
          generalize x.D.length = lx at *
          generalize x.a = xa at *
          generalize y.a = ya at *
          generalize x.c = xc at *
          generalize y.c = yc at *
          go_wp2_with fail
          go_region_held3 (fun v => v.cell? ⟨gk, 3, none⟩ = some (.slice xa lx xc) ∧ v.cell? ⟨gk, 11, none⟩ = some (.slice ya lx yc)) (with_reducible assumption) (first
            | (go_at_call 23; refine (CS.out _ hB.out.drew).mono ?_; rintro e w41 ⟨rfl, kk41, hw41⟩; have D41 : Hid (Below w5e.heap.size w5e w41) := (by show Below _ _ _; rw [hw41]; exact belN hB.out.drew kk41); clear hw41; have t41 := KS.out _ D41.out))
          go_wp2
          go_round
          case rel => exact ⟨3 + 1, by go_num, by omega, D41⟩
          case measure => first | (simp [intOf]; done) | (simp [intOf]; omega)
        obtain rfl : j = 4 := by omega
        have SW := hide (SE.out.bel hB.out)
        have zw := hB.out.size
        clear KE
        by_cases hL0 : L.length = 0
        · have hLd : ¬ ((0 : Int) < (L.length : Int)) := by omega
          have OTx := hide (OT.out.upd1 SW.out.u (fun g e hc => by have h8 := HT.out g e; have h9 : g = w3.heap.size + 1 := hc; omega))
          have OLx := hide (OL.out.upd1 SW.out.u (fun g e hc => by have h8 := HLb.out g e; have h9 : g = w3.heap.size + 1 := hc; omega))
          have cb := hide (SW.out.bookE OTx.out (by omega) (fun z e => by have h8 := HT.out z.block (by rw [e]; rfl); omega) (fun hn y hy e => by
            cases hat : at_ with
            | none => obtain ⟨a', c', e1, _, _, h7, _⟩ := OTx.out.form; injection e1 with e1 e2 e3; have := (h7 (e1.symm.trans hat)).1; rw [this] at hn; exact hn rfl
            | some z => have h8 := HT.out z.block (by rw [hat]; rfl); have h9 := (SW.out.m1 y hy z (e.trans hat)).1; omega) (by omega) (by omega))
          try dsimp only
          go_wp2_with fail
          refine cb.out.mono ?_
          rintro e w39 ⟨rfl, v39, V39, g39, _, h39, _, u39, k39, ke39, _, uu39⟩
          have G39 := hide g39
          have K39 := hide k39
          have KE39 := hide ke39
          have UU := hide uu39
          have z39 := u39.size
          have OLy := hide (OL.out.upd1 uu39 (fun g e hc => by have h8 := HLb.out g e; have h9 : g = w3.heap.size + 1 := hc; omega))
          clear cb g39 k39 ke39 uu39 u39 OTx OLx
          obtain ⟨x1, hx1, hx1D⟩ : ∃ x1, K[1]? = some x1 ∧ x1.D = L.take n := by
            have e1 := List.getElem?_eq_getElem (l := K) (i := 1) (by omega)
            refine ⟨_, e1, ?_⟩
            have t1 := congrArg (fun l => l[1]?) (hKF.out.1 (by omega))
            simp only [List.getElem?_take_of_lt (show 1 < 4 by omega), List.getElem?_map, e1, Option.map_some] at t1
            have t2 := Option.some.inj t1
            rw [t2]
            unfold ctL
            rw [if_neg (by omega)]
            simp
          have hln : (L.take n).length = n := by rw [List.length_take]; omega
          have cx := K39.out.cell kzE 1 x1 hx1 0 _ rfl
          have sx := (KE39.out x1 (List.mem_of_getElem? hx1)).sl' kE
          rw [hx1D, hln] at sx
          have sl := (OLy.out.sl' kE).take n (by omega)
          have hgk := (K39.out.blk gk rfl).2
          have y1 : w39.cell? ⟨gk, 1, none⟩ = some (.slice x1.a n x1.c) := by simpa [zE, yS, hx1D, hln] using cx
          have KS : Hid (∀ v, Below w39.heap.size w39 v → v.cell? ⟨gk, 1, none⟩ = some (.slice x1.a n x1.c)) := fun v hv => (hv.cell (p := ⟨gk, 1, none⟩) hgk).trans y1
          have CS : Hid (∀ W, Below w39.heap.size w39 W → Calls Try.prog 23 #[.slice x1.a n x1.c, .slice al n cl] W fun e w' => e = .returned (.bool true) ∧ ∃ d, w' = W.drewN d) := fun W hW => by
            have := sameents_any (L.take n) x1.a al x1.c cl W (by rw [hln]; exact sx.later hW) (by rw [hln]; exact sl.later hW)
            rw [hln] at this
            exact this
          have CP := hide (fun W (hW : Below w39.heap.size w39 W) => apart_b3 (w3.heap.size + 1) w.heap.size w5.heap.size _ _ _ _ _ _ W (G39.out.bel hW) (by omega) (by omega) (by omega))
          have DX : Hid (Below w.heap.size w w39) := D5.out.trans (UU.out.below D5.out.size (fun k hc => by have h9 : k = w3.heap.size + 1 := hc; omega))
          have hncl : n ≤ cl := by have := (OLy.out.sl' kE).cap; omega
          have hclm := (OLy.out.sl' kE).max
          unfold maxLen at hclm
          have bd : Below w39.heap.size w39 w39.drew := (Below.refl _ _).drew
          have y1d := KS.out _ bd
          clear cx sx sl hx1 hx1D G39 K39 KE39 OLy UU
          generalize x1.a = xa at *
          generalize x1.c = xc at *
          try dsimp only
          go_wp2_with fail
          go_region_with (first
            | (go_at_call 23; refine (CS.out _ bd).mono ?_; rintro e w40 ⟨rfl, kk40, hw40⟩; have D40 : Hid (Below w39.heap.size w39 w40) := (by show Below _ _ _; rw [hw40]; exact belN bd kk40); clear hw40)
            | (go_at_call 51; refine (CP.out _ D40.out).mono ?_; rintro e w41 ⟨rfl, u41⟩))
          all_goals
            go_wp2
            go_ret
            exact ⟨rfl, DX.out.trans ((D40.out.mono DX.out.size).trans (u41.below (by have := D40.out.size; have := DX.out.size; omega) (fun k hc => hc.1)))⟩
        · have hLd : (0 : Int) < (L.length : Int) := by omega
          obtain ⟨go, rfl⟩ : ∃ go, ao = some ⟨go, 0, none⟩ := by
            obtain ⟨a', c', e1, _, _, h7, h8⟩ := OO.out.form
            injection e1 with e1 e2 e3
            cases ao with
            | none => have := (h7 e1.symm).1; rw [this] at hL0; exact absurd rfl hL0
            | some z => obtain ⟨g, rfl, _⟩ := h8 z e1.symm; exact ⟨g, rfl⟩
          have hgo : w3.heap.size + 1 + 1 ≤ go ∧ go < w5.heap.size := OO.out.blk go rfl
          have OW := hide (OO.out.upd1 SW.out.u (fun g e hc => by have h8 := (OO.out.blk g e).1; have h9 : g = w3.heap.size + 1 := hc; omega))
          have he0 : L[0]? = some L[0] := List.getElem?_eq_getElem (by omega)
          generalize L[0] = e0 at he0
          have HE0 := hide he0
          clear he0
          go_wp2_with (refine storeY kE _ rfl 39 (.tmp 147) (.tmp 145) rfl (w3.heap.size + 1 + 1) go L.length co L 0 2 e0 ⟨e0.c, e0.n, ⟨2, 0, ⟨#[111, 116, 104, 101, 114]⟩⟩⟩ _ rfl rfl HE0.out (by kernel_rfl) (by exact (by decide : 5 ≤ 5)) rfl OW.out ?zs)
          intro w36 o36 u36 z36
          have S36 := hide (SW.out.store (go := go) OW.out rfl u36 hgo.2 (by have := hgo.1; omega))
          have hM0 : (L.set 0 ⟨e0.c, e0.n, ⟨2, 0, ⟨#[111, 116, 104, 101, 114]⟩⟩⟩)[0]? = some ⟨e0.c, e0.n, ⟨2, 0, ⟨#[111, 116, 104, 101, 114]⟩⟩⟩ := List.getElem?_set_self (by omega)
          have hMl : (L.set 0 ⟨e0.c, e0.n, ⟨2, 0, ⟨#[111, 116, 104, 101, 114]⟩⟩⟩).length = L.length := List.length_set
          have O36 := hide o36
          clear o36 u36 SW OW
          generalize L.set 0 ⟨e0.c, e0.n, ⟨2, 0, ⟨#[111, 116, 104, 101, 114]⟩⟩⟩ = M at *
          have cc := hide (cutO_any M (some ⟨go, 0, none⟩) L.length co (L.length : Int) w36 (O36.out.sl' kE) (by omega))
          have hct : ctE M (L.length : Int) = 0 ∧ ctL M (L.length : Int) = M := by
            unfold ctE ctL
            rw [if_neg (by omega), if_neg (by omega)]
            exact ⟨rfl, by rw [List.take_of_length_le (by simp; omega)]⟩
          rw [hct.1, hct.2] at cc
          clear hct
          try dsimp only
          go_wp2_with fail
          refine cc.out.mono ?_
          rintro e w37 ⟨v37, rfl, o37, b37⟩
          obtain ⟨a37, c37, hv37, _, hc37, h7, h8⟩ := o37.form
          rw [hMl] at hv37
          subst hv37
          obtain ⟨g37, rfl⟩ : ∃ g37, a37 = some ⟨g37, 0, none⟩ := by
            cases a37 with
            | none => have := (h7 rfl).1; rw [this] at hMl; simp at hMl; omega
            | some z => obtain ⟨g, rfl, _⟩ := h8 z rfl; exact ⟨g, rfl⟩
          unfold maxLen at hc37
          have O37 := hide o37
          have O36' := hide (O36.out.grow b37)
          have S37 := hide (S36.out.bel b37)
          have z37 := b37.size
          have KM : Hid (∀ v, Below w37.heap.size w37 v → (v.cell? ⟨g37, 0, none⟩ = some (.int .i64 e0.c) ∧ v.cell? ⟨g37, 1, none⟩ = some (.int .i64 e0.n) ∧ v.cell? ⟨g37, 2, none⟩ = some (.int .i64 2) ∧ v.cell? ⟨g37, 3, none⟩ = some (.int .i64 0) ∧ v.cell? ⟨g37, 4, none⟩ = some (.string ⟨#[111, 116, 104, 101, 114]⟩)) ∧ (v.cell? ⟨go, 0, none⟩ = some (.int .i64 e0.c) ∧ v.cell? ⟨go, 1, none⟩ = some (.int .i64 e0.n) ∧ v.cell? ⟨go, 2, none⟩ = some (.int .i64 2) ∧ v.cell? ⟨go, 3, none⟩ = some (.int .i64 0) ∧ v.cell? ⟨go, 4, none⟩ = some (.string ⟨#[111, 116, 104, 101, 114]⟩))) := fun v hv => by
            have ob := O37.out.grow hv
            have oc := O36'.out.grow hv
            have p0 := ob.cell kE 0 _ hM0 0 _ rfl
            have p1 := ob.cell kE 0 _ hM0 1 _ rfl
            have p2 := ob.cell kE 0 _ hM0 2 _ rfl
            have p3 := ob.cell kE 0 _ hM0 3 _ rfl
            have p4 := ob.cell kE 0 _ hM0 4 _ rfl
            have q0 := oc.cell kE 0 _ hM0 0 _ rfl
            have q1 := oc.cell kE 0 _ hM0 1 _ rfl
            have q2 := oc.cell kE 0 _ hM0 2 _ rfl
            have q3 := oc.cell kE 0 _ hM0 3 _ rfl
            have q4 := oc.cell kE 0 _ hM0 4 _ rfl
            simp only [Nat.zero_mul, Nat.zero_add] at p0 p1 p2 p3 p4 q0 q1 q2 q3 q4
            exact ⟨⟨p0, p1, p2, p3, p4⟩, q0, q1, q2, q3, q4⟩
          have qd : ∀ W, (binOp .neq 41 (.agg #[.int .i64 e0.c, .int .i64 e0.n, .int .i64 2, .int .i64 0, .string ⟨#[111, 116, 104, 101, 114]⟩]) (.agg #[.int .i64 e0.c, .int .i64 e0.n, .int .i64 2, .int .i64 0, .string ⟨#[111, 116, 104, 101, 114]⟩])).run Try.prog W = .ok (.bool false) W := fun W => by rw [neqE]; simp
          have s0 := KM.out _ (Below.refl w37.heap.size w37).drew
          have nll : ((L.length : Int) != (L.length : Int)) = false := by simp
          clear cc b37 S36 O36 O36' o37
          try dsimp only
          go_wp2_with fail
          go_region_held3 (fun v => (v.cell? ⟨g37, 0, none⟩ = some (.int .i64 e0.c) ∧ v.cell? ⟨g37, 1, none⟩ = some (.int .i64 e0.n) ∧ v.cell? ⟨g37, 2, none⟩ = some (.int .i64 2) ∧ v.cell? ⟨g37, 3, none⟩ = some (.int .i64 0) ∧ v.cell? ⟨g37, 4, none⟩ = some (.string ⟨#[111, 116, 104, 101, 114]⟩)) ∧ (v.cell? ⟨go, 0, none⟩ = some (.int .i64 e0.c) ∧ v.cell? ⟨go, 1, none⟩ = some (.int .i64 e0.n) ∧ v.cell? ⟨go, 2, none⟩ = some (.int .i64 2) ∧ v.cell? ⟨go, 3, none⟩ = some (.int .i64 0) ∧ v.cell? ⟨go, 4, none⟩ = some (.string ⟨#[111, 116, 104, 101, 114]⟩))) (with_reducible assumption) (fail)
          have S38 := hide (S37.out.bel (Below.refl w37.heap.size w37).drew)
          have O38 := hide (O37.out.grow (Below.refl w37.heap.size w37).drew)
          have zd : w37.drew.heap.size = w37.heap.size := rfl
          generalize w37.drew = w38 at *
          have cb := hide (S38.out.bookE' (lim := w36.heap.size) (lim' := w37.heap.size) O38.out (by rw [z36]; omega) (by rw [z36]; omega) z37 (by omega) (by omega) (fun z e => by have := (O37.out.slb e).2; exact this))
          clear S37 KM qd s0 O37
          try dsimp only
          go_wp2_with fail
          refine cb.out.mono ?_
          rintro e w38b ⟨rfl, v38, V38, s38, h38, u38⟩
          have S39 := hide s38
          clear cb s38 u38 S38 O38
          have OTx := hide (OT.out.upd1 S39.out.u (fun g e hc => by have h8 := HT.out g e; rcases hc with hc | hc; (have h9 : g = w3.heap.size + 1 := hc; omega); (have h9 : g = go := hc; have := hgo.1; omega)))
          have OLx := hide (OL.out.upd1 S39.out.u (fun g e hc => by have h8 := HLb.out g e; rcases hc with hc | hc; (have h9 : g = w3.heap.size + 1 := hc; omega); (have h9 : g = go := hc; have := hgo.1; omega)))
          have cb := hide (S39.out.bookE OTx.out (by omega) (fun z e => by have h8 := HT.out z.block (by rw [e]; rfl); omega) (fun hn y hy e => by
            cases hat : at_ with
            | none => obtain ⟨a', c', e1, _, _, h7, _⟩ := OTx.out.form; injection e1 with e1 e2 e3; have := (h7 (e1.symm.trans hat)).1; rw [this] at hn; exact hn rfl
            | some z => have h8 := HT.out z.block (by rw [hat]; rfl); have h9 := (S39.out.m1 y hy z (e.trans hat)).1; omega) (by omega) (by omega))
          try dsimp only
          go_wp2_with fail
          refine cb.out.mono ?_
          rintro e w39 ⟨rfl, v39, V39, g39, _, h39, _, u39, k39, ke39, _, uu39⟩
          have G39 := hide g39
          have K39 := hide k39
          have KE39 := hide ke39
          have UU := hide uu39
          have z39 := u39.size
          have OLy := hide (OL.out.upd1 uu39 (fun g e hc => by have h8 := HLb.out g e; rcases hc with hc | hc; (have h9 : g = w3.heap.size + 1 := hc; omega); (have h9 : g = go := hc; have := hgo.1; omega)))
          clear cb g39 k39 ke39 uu39 u39 OTx OLx
          obtain ⟨x1, hx1, hx1D⟩ : ∃ x1, K[1]? = some x1 ∧ x1.D = L.take n := by
            have e1 := List.getElem?_eq_getElem (l := K) (i := 1) (by omega)
            refine ⟨_, e1, ?_⟩
            have t1 := congrArg (fun l => l[1]?) (hKF.out.1 (by omega))
            simp only [List.getElem?_take_of_lt (show 1 < 4 by omega), List.getElem?_map, e1, Option.map_some] at t1
            have t2 := Option.some.inj t1
            rw [t2]
            unfold ctL
            rw [if_neg (by omega)]
            simp
          have hln : (L.take n).length = n := by rw [List.length_take]; omega
          have cx := K39.out.cell kzE 1 x1 hx1 0 _ rfl
          have sx := (KE39.out x1 (List.mem_of_getElem? hx1)).sl' kE
          rw [hx1D, hln] at sx
          have sl := (OLy.out.sl' kE).take n (by omega)
          have hgk := (K39.out.blk gk rfl).2
          have y1 : w39.cell? ⟨gk, 1, none⟩ = some (.slice x1.a n x1.c) := by simpa [zE, yS, hx1D, hln] using cx
          have KS : Hid (∀ v, Below w39.heap.size w39 v → v.cell? ⟨gk, 1, none⟩ = some (.slice x1.a n x1.c)) := fun v hv => (hv.cell (p := ⟨gk, 1, none⟩) hgk).trans y1
          have CS : Hid (∀ W, Below w39.heap.size w39 W → Calls Try.prog 23 #[.slice x1.a n x1.c, .slice al n cl] W fun e w' => e = .returned (.bool true) ∧ ∃ d, w' = W.drewN d) := fun W hW => by
            have := sameents_any (L.take n) x1.a al x1.c cl W (by rw [hln]; exact sx.later hW) (by rw [hln]; exact sl.later hW)
            rw [hln] at this
            exact this
          have CP := hide (fun W (hW : Below w39.heap.size w39 W) => apart_b3 (w3.heap.size + 1) w.heap.size w5.heap.size _ _ _ _ _ _ W (G39.out.bel hW) (by omega) (by omega) (by omega))
          have DX : Hid (Below w.heap.size w w39) := D5.out.trans (UU.out.below D5.out.size (fun k hc => by rcases hc with hc | hc; (have h9 : k = w3.heap.size + 1 := hc; omega); (have h9 : k = go := hc; have := hgo.1; omega)))
          have hncl : n ≤ cl := by have := (OLy.out.sl' kE).cap; omega
          have hclm := (OLy.out.sl' kE).max
          unfold maxLen at hclm
          have bd : Below w39.heap.size w39 w39.drew := (Below.refl _ _).drew
          have y1d := KS.out _ bd
          clear cx sx sl hx1 hx1D G39 K39 KE39 OLy UU
          generalize x1.a = xa at *
          generalize x1.c = xc at *
          try dsimp only
          go_wp2_with fail
          go_region_with (first
            | (go_at_call 23; refine (CS.out _ bd).mono ?_; rintro e w40 ⟨rfl, kk40, hw40⟩; have D40 : Hid (Below w39.heap.size w39 w40) := (by show Below _ _ _; rw [hw40]; exact belN bd kk40); clear hw40)
            | (go_at_call 51; refine (CP.out _ D40.out).mono ?_; rintro e w41 ⟨rfl, u41⟩))
          all_goals
            go_wp2
            go_ret
            exact ⟨rfl, DX.out.trans ((D40.out.mono DX.out.size).trans (u41.below (by have := D40.out.size; have := DX.out.size; omega) (fun k hc => hc.1)))⟩

end Go.Proofs.Ytdfoafpcoigklaa
