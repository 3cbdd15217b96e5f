import Derived.Test.YtcmjhaljbmhpgaaGreatSbt
import Derived.Test.YtcmjhaljbmhpgaaGreatOj
namespace Go.Proofs.YtcmjhaljbmhpgaaGreat
open Go.RowKit Go.Maps
open Classical
set_option linter.unusedVariables false
set_option linter.unusedSimpArgs false

theorem hTBBl : yBlA.T ≠ zE.T := by decide
theorem hTCBl : yBlA.T ≠ zD.T := by decide
theorem hTDdBl : yBlA.T ≠ yD.T := by decide
theorem own_otherBl {B : Nat} {w : World} {v : Value} {l : List Bl} (h : OwnY yBlA B w v l) : ∀ k, v.ownBlock = some k → ∃ cs T f, w.heap[k]? = some (.cells cs T f) ∧ T ≠ zD.T ∧ T ≠ zE.T ∧ T ≠ yD.T ∧ T ≠ yE.T := fun k e => by
  obtain ⟨cs, f, e1⟩ := h.kind e
  exact ⟨cs, _, f, e1, hTCBl, hTBBl, hTDdBl, hTEBl.symm⟩
/-- The vote that lies in the room behind the others. -/
def Bl.z77 : Bl := ⟨-77, 0, 0, 0, 0, ⟨none, 0, []⟩⟩
/-- Votes that are alike, their logs lent by the Given that keeps La. -/
def Bl.Ln (La : List (SV En)) (L R : List Bl) : Prop := R.length = L.length ∧ ∀ (i : Nat) (x y : Bl), L[i]? = some x → R[i]? = some y → Bl.Like x y ∧ (∃ g, y.s.a = some ⟨g, 0, none⟩) ∧ (⟨y.s.a, y.s.c, y.s.D ++ [mkE]⟩ : SV En) ∈ La ∧ y.s.D.length * 48 ≤ 140737488351232
theorem Bl.Ln.more {La Lb : List (SV En)} {L R : List Bl} (h : Bl.Ln La L R) (hs : ∀ z ∈ La, z ∈ Lb) : Bl.Ln Lb L R := ⟨h.1, fun i x y hx hy => ⟨(h.2 i x y hx hy).1, (h.2 i x y hx hy).2.1, hs _ (h.2 i x y hx hy).2.2.1, (h.2 i x y hx hy).2.2.2⟩⟩
theorem lent_in {w : World} {b B : Nat} {v2 v3 v4 v5 : Value} {Da Db : List (SV (Int × Int))} {La Lb : List (SV En)} (G : GM w b B v2 v3 v4 v5 Da Db La Lb) {s : SV En} (ha : ∃ g, s.a = some ⟨g, 0, none⟩) (hm : (⟨s.a, s.c, s.D ++ [mkE]⟩ : SV En) ∈ La) : SlY yE w s.a s.D.length s.c s.D := by
  obtain ⟨g, e⟩ := ha
  have h := G.m4 _ hm
  simp only [SV.v, e] at h
  rw [e]
  exact h.front kE rfl
theorem Bl.Ln.In {w : World} {b B : Nat} {v2 v3 v4 v5 : Value} {Da Db : List (SV (Int × Int))} {La Lb : List (SV En)} (G : GM w b B v2 v3 v4 v5 Da Db La Lb) {L R : List Bl} (h : Bl.Ln La L R) : ∀ y ∈ R, y.In w ∧ y.s.D.length * 48 ≤ 140737488351232 := fun y hy => by
  obtain ⟨i, hi, rfl⟩ := List.mem_iff_getElem.1 hy
  have hi2 : i < L.length := by rw [← h.1]; exact hi
  obtain ⟨_, h1, h2, h3⟩ := h.2 i _ _ (List.getElem?_eq_getElem hi2) (List.getElem?_eq_getElem hi)
  exact ⟨⟨lent_in G h1 h2, by omega⟩, h3⟩
theorem Bl.Ln.snoc {La Lb : List (SV En)} {L R : List Bl} {j : Nat} {x y : Bl} (h : Bl.Ln La (L.take j) R) (hs : ∀ z ∈ La, z ∈ Lb) (hj : L[j]? = some x) (hc : Bl.Like x y ∧ (∃ g, y.s.a = some ⟨g, 0, none⟩) ∧ (⟨y.s.a, y.s.c, y.s.D ++ [mkE]⟩ : SV En) ∈ Lb ∧ y.s.D.length * 48 ≤ 140737488351232) : Bl.Ln Lb (L.take (j + 1)) (R ++ [y]) := by
  have hl := (List.getElem?_eq_some_iff.1 hj).1
  have h0 : (L.take j).length = j := by rw [List.length_take]; omega
  refine ⟨by rw [List.length_append, h.1, h0, List.length_take]; simp; omega, fun i a b ha hb => ?_⟩
  by_cases e : i < j
  · rw [List.getElem?_append_left (by rw [h.1, h0]; exact e)] at hb
    refine (h.more hs).2 i a b ?_ hb
    rw [List.getElem?_take_of_lt (by omega)] at ha
    rw [List.getElem?_take_of_lt e]
    exact ha
  · have hlt := (List.getElem?_eq_some_iff.1 hb).1
    rw [List.length_append, h.1, h0] at hlt
    simp at hlt
    obtain rfl : i = j := by omega
    rw [List.getElem?_append_right (by rw [h.1, h0]; exact Nat.le_refl _), h.1, h0, Nat.sub_self] at hb
    rw [List.getElem?_take_of_lt (by omega), hj] at ha
    cases ha
    simp at hb
    subst hb
    exact hc
set_option maxRecDepth 100000 in
set_option maxHeartbeats 1000000 in
/-- Votes with another one in the room behind them, their logs lent. -/
theorem Bl.lent_any (L : List Bl) (a : Option Addr) (n k b B : Nat) (w0 w : World) (h : SlY yBlA w0 a n k L) (hlogs : ∀ x ∈ L, x.In w0 ∧ x.s.D.length * 48 ≤ 140737488351232) (hw : Below w0.heap.size w0 w) (hb0 : w0.heap.size ≤ b)
    (G : GM w b B (.slice none 0 0) (.slice none 0 0) (.slice none 0 0) (.slice none 0 0) [] [] [] []) (hm : n * 64 ≤ 140737488351232) :
    Calls Tryz.prog 20 #[.pointer (some ⟨b, 0, none⟩), .slice a n k] w fun e w' => ∃ g c R va vb La Lb, e = .returned (.slice (some ⟨g, 0, none⟩) n c) ∧ n + 1 ≤ c ∧ OwnY yBlA w.heap.size w' (.slice (some ⟨g, 0, none⟩) (n + 1) c) (R ++ [Bl.z77]) ∧ Bl.Ln La L R ∧ GM w' b B (.slice none 0 0) (.slice none 0 0) va vb [] [] La Lb ∧ La.map (·.D) = Lb.map (·.D) ∧ La.length = n ∧ (∀ k, va.ownBlock = some k → w.heap.size ≤ k) ∧ (∀ k, vb.ownBlock = some k → w.heap.size ≤ k) ∧ Upd (· = b) w w' := by
  have hmx := h.max
  have hcp := h.cap
  have hln := h.len
  unfold maxLen at hmx
  have hbw : b < w.heap.size := Nat.lt_of_lt_of_le G.lt G.ltB
  have H := hide h
  have HN := hide hln
  have HLL := hide hlogs
  have HG := hide G
  have HW := hide hw
  clear h hln hlogs G hw
  have KL : Hid (∀ v, Upd (· = b) w v → Below w0.heap.size w0 v) := fun v hv => HW.out.trans (hv.below HW.out.size (fun k e => by subst e; exact hb0))
  have HP : Hid (∀ La R, Bl.Ln La (L.take n) R → Bl.Ln La L R) := fun La R hc => by
    rw [List.take_of_length_le (by rw [HN.out]; exact Nat.le_refl _)] at hc
    exact hc
  go_enter Tryz.func20, Tryz.ntmps20
  go_wp2
  go_loopw [6, 5] (fun i v wr => ∃ (j : Nat) (v3 : Value) (R : List Bl) (va vb : Value) (La Lb : List (SV En)), i = .int .i64 (j : Int) ∧ j ≤ n ∧ v = v3 ∧ Hid (OwnY yBlA w.heap.size wr v3 R) ∧ Hid (Bl.Ln La (L.take j) R) ∧ Hid (GM wr b B (.slice none 0 0) (.slice none 0 0) va vb [] [] La Lb) ∧ Hid (La.map (·.D) = Lb.map (·.D) ∧ La.length = j ∧ (∀ k, va.ownBlock = some k → w.heap.size ≤ k) ∧ (∀ k, vb.ownBlock = some k → w.heap.size ≤ k)) ∧ Hid (Upd (· = b) w wr)) (fun i _ _ => n - (intOf i).toNat)
  case atStart => exact ⟨0, _, [], _, _, [], [], rfl, Nat.zero_le _, rfl, OwnY.nil _ _ _, ⟨rfl, fun i x y hx hy => by simp at hy⟩, HG, ⟨rfl, rfl, (fun k e => by cases e), (fun k e => by cases e)⟩, Upd.refl _ _⟩
  case round =>
    obtain ⟨j, v3, R, va, vb, La, Lb, rfl, hj, hv3, hO, hC, hG, hM, hU⟩ := hrel
    have hv3 := hv3.symm
    subst hv3
    by_cases hlt : j < n
    · have hjl : j < L.length := by rw [HN.out]; exact hlt
      have hg : L[j]? = some L[j] := List.getElem?_eq_getElem hjl
      obtain ⟨q, o, ea, hq, y0, y1, y2, y3, y4, y5⟩ := (H.out.later (KL.out _ hU.out)).BlA hg
      cases ea
      have HX : Hid (L[j].In w0 ∧ L[j].s.D.length * 48 ≤ 140737488351232) := HLL.out _ (List.getElem_mem hjl)
      have hRl : Hid (R.length = j) := by show _ = _; rw [hC.out.1, List.length_take]; omega
      have HGT : Hid (L[j]? = some L[j]) := hg
      clear hg
      generalize L[j] = x at *
      have zr := hU.out.size
      have oz : OwnY yBlA wr.heap.size (wr.alloc (.cells #[.int .i64 0, .int .u64 0, .int .u64 0, .int .i64 0, .int .i64 0, .slice none 0 0] 53)) (.slice (some ⟨wr.heap.size, 0, none⟩) 1 1) [⟨0, 0, 0, 0, 0, ⟨none, 0, []⟩⟩] := own_box kBlA wr.heap.size wr ⟨0, 0, 0, 0, 0, ⟨none, 0, []⟩⟩ (Nat.le_refl _)
      have OZ := hide oz
      have hza : Hid ((wr.alloc (.cells #[.int .i64 0, .int .u64 0, .int .u64 0, .int .i64 0, .int .i64 0, .slice none 0 0] 53)).heap.size = wr.heap.size + 1) := by show _ = _; simp
      have BA : Hid (Below wr.heap.size wr (wr.alloc (.cells #[.int .i64 0, .int .u64 0, .int .u64 0, .int .i64 0, .int .i64 0, .slice none 0 0] 53))) := (Below.refl _ _).alloc (Nat.le_refl _) _
      clear oz
      go_wp2_with (refine storeY kBlA _ rfl 53 (.tmp 7) (.tmp 17) rfl wr.heap.size wr.heap.size 1 1 [⟨0, 0, 0, 0, 0, ⟨none, 0, []⟩⟩] 0 0 ⟨0, 0, 0, 0, 0, ⟨none, 0, []⟩⟩ x _ rfl rfl rfl (by kernel_rfl) (by exact (by decide : 6 ≤ 6)) rfl OZ.out ?za)
      intro w1 o1 u1 z1
      have O1 := hide o1
      have B1 := hide (BA.out.trans (u1.below (by rw [hza.out]; omega) (fun k e => by subst e; exact Nat.le_refl _)))
      have z1' : w1.heap.size = wr.heap.size + 1 := by first | exact z1 | exact z1.trans hza.out
      have Z1 := hide z1'
      clear o1 u1 z1 z1' y0 y1 y2 y3 y4 y5 OZ BA hza
      have t5 := O1.out.cell kBlA 0 _ rfl 5 _ rfl
      simp only [Nat.zero_mul, Nat.zero_add] at t5
      have U1 : Hid (Upd (· = b) w w1) := hU.out.trans (Upd.of_below B1.out)
      have G1 := hide (hG.out.bel B1.out)
      have OR1 := hide (hO.out.grow B1.out)
      have CC := hide (given_entM b B _ _ va vb [] [] La Lb x.s.a x.s.D.length x.s.c x.s.D w1 G1.out (HX.out.1.later (KL.out _ U1.out)).1 HX.out.2 (by have := hM.out.2.1; omega) (by have h1 := congrArg List.length hM.out.1; simpa using h1.symm))
      go_wp2_with fail
      refine CC.out.mono ?_
      rintro e w2 ⟨g2, c2, va2, vb2, g5, k5, rfl, s2, hg2, G2', u2, nva, nvb⟩
      have hne : ∀ {v : Value} {B' : Nat} {l : List Bl}, OwnY yBlA B' w1 v l → b < B' → ∀ g, v.ownBlock = some g → ¬ (g = b ∨ va.ownBlock = some g ∨ vb.ownBlock = some g) := fun ho hB g e hc => by
        rcases hc with hc | hc | hc
        · have := (ho.blk g e).1; omega
        · exact ho.apart G1.out.o4 hTBBl g e hc
        · exact ho.apart G1.out.o5 hTBBl g e hc
      have OB2 := hide (O1.out.upd1 u2 (hne O1.out (by omega)))
      have OR2 := hide (OR1.out.upd1 u2 (hne OR1.out hbw))
      have U2 : Hid (Upd (· = b) w w2) := U1.out.trans9 u2 (fun k hk hc => by
        rcases hc with hc | hc | hc
        · exact hc
        · have := hM.out.2.2.1 k hc; omega
        · have := hM.out.2.2.2 k hc; omega)
      have M2 : Hid ((La ++ [(⟨some ⟨g2, 0, none⟩, c2, x.s.D ++ [mkE]⟩ : SV En)]).map (·.D) = (Lb ++ [(⟨some ⟨g5, 0, none⟩, k5, x.s.D ++ [mkE]⟩ : SV En)]).map (·.D) ∧ (La ++ [(⟨some ⟨g2, 0, none⟩, c2, x.s.D ++ [mkE]⟩ : SV En)]).length = j + 1 ∧ (∀ k, va2.ownBlock = some k → w.heap.size ≤ k) ∧ (∀ k, vb2.ownBlock = some k → w.heap.size ≤ k)) := by
        refine ⟨by rw [List.map_append, List.map_append, hM.out.1]; rfl, by rw [List.length_append, hM.out.2.1]; rfl, fun k e => ?_, fun k e => ?_⟩
        · rcases nva with nva | ⟨k', h1, h2⟩
          · exact hM.out.2.2.1 k (nva.symm.trans e)
          · rw [h1] at e; cases e; have := Z1.out; omega
        · rcases nvb with nvb | ⟨k', h1, h2⟩
          · exact hM.out.2.2.2 k (nvb.symm.trans e)
          · rw [h1] at e; cases e; have := Z1.out; omega
      have G2 := hide G2'
      have Z2 : Hid (wr.heap.size + 1 ≤ w2.heap.size) := by show _ ≤ _; rw [← Z1.out]; exact u2.size
      clear CC u2 nva nvb G2' hne s2 t5 OR1 O1 B1 G1 hG hM U1
      dsimp only
      go_wp2_with (refine storeY kBlA _ rfl 51 (.tmp 22) (.tmp 21) rfl wr.heap.size wr.heap.size 1 1 [x] 0 5 x { x with s := ⟨some ⟨g2, 0, none⟩, c2, x.s.D⟩ } _ rfl rfl rfl (by kernel_rfl) (by exact (by decide : 6 ≤ 6)) rfl OB2.out ?zb)
      intro w3 o3 u3 z3
      have O3 := hide o3
      have B3 : Hid (Below wr.heap.size w2 w3) := u3.below (by have := Z2.out; omega) (fun k e => by subst e; exact Nat.le_refl _)
      have U3 : Hid (Upd (· = b) w w3) := U2.out.trans9 u3 (fun k hk hc => by have : k = wr.heap.size := hc; omega)
      have G3 := hide (G2.out.updT u3 (by have := hU.out.size; omega) (fun k hk hc => by subst hc; exact own_otherBl OB2.out _ rfl))
      have OR3 := hide (OR2.out.upd1 u3 (fun g e hc => by have h1 : g = wr.heap.size := hc; have h2 := (hO.out.blk g e).2; omega))
      have Z3 : Hid (wr.heap.size + 1 ≤ w3.heap.size) := by show _ ≤ _; rw [z3]; exact Z2.out
      clear o3 u3 z3 OB2 OR2 G2 U2
      have v0 := O3.out.cell kBlA 0 _ rfl 0 _ rfl
      have v1 := O3.out.cell kBlA 0 _ rfl 1 _ rfl
      have v2 := O3.out.cell kBlA 0 _ rfl 2 _ rfl
      have v3' := O3.out.cell kBlA 0 _ rfl 3 _ rfl
      have v4 := O3.out.cell kBlA 0 _ rfl 4 _ rfl
      have v5 := O3.out.cell kBlA 0 _ rfl 5 _ rfl
      simp only [Nat.zero_mul, Nat.zero_add] at v0 v1 v2 v3' v4 v5
      have SB : Hid (SlY yBlA (w3.alloc (.cells #[.int .i64 x.n, .int .u64 x.h, .int .u64 x.l, .int .i64 x.v, .int .i64 x.c, .slice (some ⟨g2, 0, none⟩) x.s.D.length c2] 53)) (some ⟨w3.heap.size, 0, none⟩) 1 1 [{ x with s := ⟨some ⟨g2, 0, none⟩, c2, x.s.D⟩ }]) := sl_box (Y := yBlA) w3 ({ x with s := ⟨some ⟨g2, 0, none⟩, c2, x.s.D⟩ } : Bl) 53
      have BB : Hid (Below w3.heap.size w3 (w3.alloc (.cells #[.int .i64 x.n, .int .u64 x.h, .int .u64 x.l, .int .i64 x.v, .int .i64 x.c, .slice (some ⟨g2, 0, none⟩) x.s.D.length c2] 53))) := (Below.refl _ _).alloc (Nat.le_refl _) _
      have OR4 := hide (OR3.out.grow BB.out)
      have U4 : Hid (Upd (· = b) w (w3.alloc (.cells #[.int .i64 x.n, .int .u64 x.h, .int .u64 x.l, .int .i64 x.v, .int .i64 x.c, .slice (some ⟨g2, 0, none⟩) x.s.D.length c2] 53))) := U3.out.trans (Upd.of_below BB.out)
      have G4 := hide (G3.out.bel BB.out)
      have z4 : w.heap.size ≤ (w3.alloc (.cells #[.int .i64 x.n, .int .u64 x.h, .int .u64 x.l, .int .i64 x.v, .int .i64 x.c, .slice (some ⟨g2, 0, none⟩) x.s.D.length c2] 53)).heap.size := U4.out.size
      clear OR3 G3 BB U3
      go_upto_region 7 with fail
      go_wp2_with (at_builtin; go_must (refine appY kBlA _ rfl (.tmp 23) (.tmp 25) rfl w.heap.size R _ rfl (some ⟨w3.heap.size, 0, none⟩) 1 1 rfl [{ x with s := ⟨some ⟨g2, 0, none⟩, c2, x.s.D⟩ }] SB.out OR4.out z4 (by rw [hRl.out]; unfold maxLen; omega) (by show (_ + 1) * 64 ≤ _; rw [hRl.out]; omega) ?_))
      intro v' w6 o6 g6 e6
      have U6 : Hid (Upd (· = b) w w6) := U4.out.grownBy g6 (fun k e hk => by have := (OR4.out.blk k e).1; omega)
      have G6 := hide (G4.out.updT (S := fun k => v3.ownBlock = some k) (gupd g6 (fun k e => e)) (fun e => by have := (OR4.out.blk b e).1; omega) (fun k hk hc => own_otherBl OR4.out k hc))
      have C6 : Hid (Bl.Ln (La ++ [⟨some ⟨g2, 0, none⟩, c2, x.s.D ++ [mkE]⟩]) (L.take (j + 1)) (R ++ [{ x with s := ⟨some ⟨g2, 0, none⟩, c2, x.s.D⟩ }])) := hC.out.snoc (fun z hz => List.mem_append_left _ hz) HGT.out ⟨⟨rfl, rfl, rfl, rfl, rfl, rfl⟩, ⟨g2, rfl⟩, by simp, HX.out.2⟩
      have O6 := hide o6
      clear o6 g6 e6 SB OR4 U4 G4 z4 v0 v1 v2 v3' v4 v5 hC hO
      go_wp2
      go_round
      case rel => exact ⟨j + 1, v', _, _, _, _, _, by go_num, by omega, rfl, O6, C6, G6, M2, U6⟩
      case measure => first | (simp [intOf]; done) | (simp [intOf]; omega)
    · obtain rfl : j = n := by omega
      have C9 := hide (HP.out _ _ hC.out)
      have hRl : Hid (R.length = j) := by show _ = _; rw [C9.out.1, HN.out]
      clear hC HP
      have SB : Hid (SlY yBlA (wr.alloc (.cells #[.int .i64 (-77), .int .u64 0, .int .u64 0, .int .i64 0, .int .i64 0, .slice none 0 0] 53)) (some ⟨wr.heap.size, 0, none⟩) 1 1 [Bl.z77]) := sl_box (Y := yBlA) wr Bl.z77 53
      have BB : Hid (Below wr.heap.size wr (wr.alloc (.cells #[.int .i64 (-77), .int .u64 0, .int .u64 0, .int .i64 0, .int .i64 0, .slice none 0 0] 53))) := (Below.refl _ _).alloc (Nat.le_refl _) _
      have OR4 := hide (hO.out.grow BB.out)
      have U4 : Hid (Upd (· = b) w (wr.alloc (.cells #[.int .i64 (-77), .int .u64 0, .int .u64 0, .int .i64 0, .int .i64 0, .slice none 0 0] 53))) := hU.out.trans (Upd.of_below BB.out)
      have G4 := hide (hG.out.bel BB.out)
      have z4 : w.heap.size ≤ (wr.alloc (.cells #[.int .i64 (-77), .int .u64 0, .int .u64 0, .int .i64 0, .int .i64 0, .slice none 0 0] 53)).heap.size := U4.out.size
      clear BB hG hO
      go_upto_region 8 with fail
      go_wp2_with (at_builtin; go_must (refine appY kBlA _ rfl (.tmp 27) (.tmp 29) rfl w.heap.size R _ rfl (some ⟨wr.heap.size, 0, none⟩) 1 1 rfl [Bl.z77] SB.out OR4.out z4 (by rw [hRl.out]; unfold maxLen; omega) (by show (_ + 1) * 64 ≤ _; rw [hRl.out]; omega) ?_))
      intro v' w6 o6 g6 e6
      have U6 : Hid (Upd (· = b) w w6) := U4.out.grownBy g6 (fun k e hk => by have := (OR4.out.blk k e).1; omega)
      have G6 := hide (G4.out.updT (S := fun k => v3.ownBlock = some k) (gupd g6 (fun k e => e)) (fun e => by have := (OR4.out.blk b e).1; omega) (fun k hk hc => own_otherBl OR4.out k hc))
      obtain ⟨a3, c3, rfl, s3, hb3⟩ := o6.sl kBlA
      have hl3 : (R ++ [Bl.z77]).length = j + 1 := by rw [List.length_append, hRl.out]; rfl
      rw [hl3] at s3 ⊢
      obtain ⟨g, rfl⟩ : ∃ g, a3 = some ⟨g, 0, none⟩ := by
        cases a3 with
        | none => have := s3.nil rfl; rw [this.1] at hl3; simp at hl3
        | some z => obtain ⟨g, rfl, _⟩ := hb3 z rfl; exact ⟨g, rfl⟩
      have hc3 := s3.cap
      have hm3 := s3.max
      unfold maxLen at hm3
      have O6 : Hid (OwnY yBlA w.heap.size w6 (.slice (some ⟨g, 0, none⟩) (j + 1) c3) (R ++ [Bl.z77])) := by show OwnY _ _ _ _ _; rw [← hl3]; exact o6
      clear s3 o6 g6 e6 hb3 SB OR4 U4 G4 z4 hl3
      go_wp2
      go_ret
      first
        | exact ⟨g, c3, rfl, by omega, R, O6.out, _, _, _, C9.out, _, G6.out, hM.out.1, hM.out.2.1, hM.out.2.2.1, hM.out.2.2.2, U6.out⟩
        | exact ⟨g, c3, R, _, _, _, _, rfl, by omega, O6.out, C9.out, G6.out, hM.out.1, hM.out.2.1, hM.out.2.2.1, hM.out.2.2.2, U6.out⟩

end Go.Proofs.YtcmjhaljbmhpgaaGreat
