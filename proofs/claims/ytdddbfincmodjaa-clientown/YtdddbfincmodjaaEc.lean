import Derived.Test.YtdddbfincmodjaaEb
import Derived.Test.YtdddbfincmodjaaYf
namespace Go.Proofs.Ytdddbfincmodjaa
open Go.RowKit Go.Maps
open Classical
set_option linter.unusedVariables false
set_option linter.unusedSimpArgs false

set_option maxRecDepth 100000 in
theorem bookrows_none (b : Nat) (a : Option Addr) (c : Nat) (w : World) : Calls Try.prog 23 #[.pointer (some ⟨b, 0, none⟩), .slice a 0 c] w fun e w' => e = .returned (.tuple #[]) ∧ w' = w := by
  go_enter Try.func23, Try.ntmps23
  go_wp2
  go_end0
  exact ⟨rfl, rfl⟩
set_option maxRecDepth 100000 in
set_option maxHeartbeats 1000000 in
theorem bookrows_any (b B : Nat) (v : Value) (V : List (SV Rw)) (x : SV Rw) (w : World) (G : BY yR zRR 5 w b B v V) (hx : OwnY yR B w x.v x.D) (h0 : 0 < x.D.length) (h1 : x.D.length ≤ 1000) (hn : ∀ y, y ∈ V → y.a ≠ x.a) (hV : V.length ≤ 100) :
    Calls Try.prog 23 #[.pointer (some ⟨b, 0, none⟩), .slice x.a x.D.length x.c] w fun e w' => e = .returned (.tuple #[]) ∧ ∃ v', BY yR zRR 5 w' b B v' (V ++ [x]) ∧ Upd (fun k => k = b ∨ v.ownBlock = some k) w w' := by
  have hbw : b < w.heap.size := Nat.lt_of_lt_of_le G.lt G.ltB
  have d5 := G.cp
  have y5 : ∀ ob, (w.alloc ob).cell? ⟨b, 5, none⟩ = some v := fun ob => (World.cell?_alloc_past _ _ _ hbw).trans d5
  have ba := (Below.refl w.heap.size w).alloc (Nat.le_refl _) (.cells #[.slice x.a x.D.length x.c] 30)
  have GA := hide (G.bel ba)
  have XA := hide (hx.grow ba)
  have SB := hide (sl_box (Y := zRR) w x 30)
  have hB := G.ltB
  have hbB := G.lt
  clear G hx
  generalize hxl : x.D.length = n at *
  have HXL := hide hxl
  have SB2 : Hid (SlY zRR (w.alloc (.cells #[.slice x.a n x.c] 30)) (some ⟨w.heap.size, 0, none⟩) 1 1 [x]) := by
    have := SB.out
    simp only [zRR, yS, hxl] at this
    exact this
  clear hxl SB
  go_enter Try.func23, Try.ntmps23
  go_wp2_with (at_builtin; go_must (refine appY kzRR _ rfl (.tmp 11) (.tmp 13) rfl B V v rfl (some ⟨w.heap.size, 0, none⟩) 1 1 rfl [x] SB2.out GA.out.o (by simp; omega) (by unfold maxLen; omega) (by show (_ + 1) * 24 ≤ _; omega) ?_))
  intro v' w3 o3 g3 _
  have zc := gcell g3 GA.out.cp (fun e => by have := (GA.out.o.blk b e).1; omega)
  have zf := gfroz g3 (by simp; omega) GA.out.fp (fun e => by have := (GA.out.o.blk b e).1; omega)
  have G4 := hide (GA.out.push hTRR XA.out (by rw [HXL.out]; exact h0) (by rw [HXL.out]; exact h1) hn g3 o3)
  have U4 : Hid (Upd (fun k => k = b ∨ v.ownBlock = some k) w (w3.setCell ⟨b, 5, none⟩ v')) := (((Upd.of_below ba).trans (gupd g3 (fun k e => .inr e)))).setCell (.inl (.inl rfl)) _
  obtain ⟨r2, q2, hv2, _⟩ := o3.form
  clear o3 g3 GA XA SB2
  generalize (V ++ [x]).length = l2 at hv2
  subst hv2
  go_wp2
  go_end0
  exact ⟨rfl, _, G4.out, U4.out⟩
theorem apartrows_by (b B : Nat) (v : Value) (V : List (SV Rw)) (w : World) (G : BY yR zRR 5 w b B v V) (hV : V.length ≤ 100) :
    Calls Try.prog 49 #[.pointer (some ⟨b, 0, none⟩)] w fun e w' => e = .returned (.bool true) ∧ Upd (inY V) w w' := by
  rcases G.o.2 with ⟨hv, hl⟩ | ⟨g, cap, cur, hv, h2, h3, h4, h5, _⟩
  · subst hv
    exact (apartRows_nil b w G.cp).mono fun e w' ⟨he, bl⟩ => ⟨he, Upd.of_below bl⟩
  · subst hv
    obtain ⟨lb, own⟩ := G.lb (mk := mkR) hTRR kzRR (fun x => rfl) rfl (by omega)
    exact (apartrows_any b g cap V.length (V.map entY) w G.cp (by simp) h4 h5 lb own).mono fun e w' ⟨he, u⟩ => ⟨he, u.mono (fun k _ hk => G.blk hk)⟩
set_option maxRecDepth 100000 in
set_option maxHeartbeats 1000000 in
theorem apart_by (b B : Nat) (v : Value) (V : List (SV Rw)) (w : World) (G : BY yR zRR 5 w b B v V) (hV : V.length ≤ 100) :
    Calls Try.prog 24 #[.pointer (some ⟨b, 0, none⟩)] w fun e w' => e = .returned (.bool true) ∧ Upd (inY V) w w' := by
  have hbw : b < w.heap.size := Nat.lt_of_lt_of_le G.lt G.ltB
  have hnb : ¬ inY V b := fun ⟨x, hx, e⟩ => by
    obtain ⟨o, _⟩ := G.ev x hx
    have := (o.blk b (by unfold SV.v; rw [e]; rfl)).1
    have := G.lt
    omega
  have HG := hide G
  clear G
  go_enter Try.func24, Try.ntmps24
  go_wp2_with fail
  refine (apartBytes_nil b w (HG.out.ce 0 (by omega) (by omega))).mono ?_
  rintro e w1 ⟨rfl, b1⟩
  have G1 := hide (HG.out.bel b1)
  have U1 : Hid (Upd (inY V) w w1) := Upd.of_below b1
  clear b1
  go_wp2_with fail
  refine (apartInts_nil b w1 (G1.out.ce 1 (by omega) (by omega))).mono ?_
  rintro e w2 ⟨rfl, b2⟩
  have G2 := hide (G1.out.bel b2)
  have U2 : Hid (Upd (inY V) w w2) := U1.out.trans (Upd.of_below b2)
  clear b2
  go_wp2_with fail
  refine (apartVector_nil b w2 (G2.out.ce 2 (by omega) (by omega))).mono ?_
  rintro e w3 ⟨rfl, b3⟩
  have G3 := hide (G2.out.bel b3)
  have U3 : Hid (Upd (inY V) w w3) := U2.out.trans (Upd.of_below b3)
  clear b3
  go_wp2_with fail
  refine (apartEntries_nil b w3 (G3.out.ce 3 (by omega) (by omega))).mono ?_
  rintro e w4 ⟨rfl, b4⟩
  have G4 := hide (G3.out.bel b4)
  have U4 : Hid (Upd (inY V) w w4) := U3.out.trans (Upd.of_below b4)
  clear b4
  go_wp2_with fail
  refine (apartCells_nil b w4 (G4.out.ce 4 (by omega) (by omega))).mono ?_
  rintro e w5 ⟨rfl, b5⟩
  have G5 := hide (G4.out.bel b5)
  have U5 : Hid (Upd (inY V) w w5) := U4.out.trans (Upd.of_below b5)
  clear b5
  go_wp2_with fail
  refine (apartrows_by b B v V w5 G5.out hV).mono ?_
  rintro e w6 ⟨rfl, u6⟩
  have U6 := hide (U5.out.trans u6)
  have C6 : Hid (∀ i, i < 10 → i ≠ 5 → w6.cell? ⟨b, i, none⟩ = some (.slice none 0 0)) := fun i h0 h1 => (U6.out.cell (p := ⟨b, i, none⟩) hbw hnb).trans (HG.out.ce i h0 h1)
  clear u6
  go_wp2_with fail
  refine (apartResults_nil b w6 (C6.out 6 (by omega) (by omega))).mono ?_
  rintro e w7 ⟨rfl, b7⟩
  have U7 : Hid (Upd (inY V) w w7) := U6.out.trans (Upd.of_below b7)
  have C7 : Hid (∀ i, i < 10 → i ≠ 5 → w7.cell? ⟨b, i, none⟩ = some (.slice none 0 0)) := fun i h0 h1 => (U7.out.cell (p := ⟨b, i, none⟩) hbw hnb).trans (HG.out.ce i h0 h1)
  clear b7
  go_wp2_with fail
  refine (apartStamps_nil b w7 (C7.out 7 (by omega) (by omega))).mono ?_
  rintro e w8 ⟨rfl, b8⟩
  have U8 : Hid (Upd (inY V) w w8) := U7.out.trans (Upd.of_below b8)
  have C8 : Hid (∀ i, i < 10 → i ≠ 5 → w8.cell? ⟨b, i, none⟩ = some (.slice none 0 0)) := fun i h0 h1 => (U8.out.cell (p := ⟨b, i, none⟩) hbw hnb).trans (HG.out.ce i h0 h1)
  clear b8
  go_wp2_with fail
  refine (apartAcks_nil b w8 (C8.out 8 (by omega) (by omega))).mono ?_
  rintro e w9 ⟨rfl, b9⟩
  have U9 : Hid (Upd (inY V) w w9) := U8.out.trans (Upd.of_below b9)
  have C9 : Hid (∀ i, i < 10 → i ≠ 5 → w9.cell? ⟨b, i, none⟩ = some (.slice none 0 0)) := fun i h0 h1 => (U9.out.cell (p := ⟨b, i, none⟩) hbw hnb).trans (HG.out.ce i h0 h1)
  clear b9
  go_wp2_with fail
  refine (apartMarks_nil b w9 (C9.out 9 (by omega) (by omega))).mono ?_
  rintro e w10 ⟨rfl, b10⟩
  have U10 : Hid (Upd (inY V) w w10) := U9.out.trans (Upd.of_below b10)
  have C10 : Hid (∀ i, i < 10 → i ≠ 5 → w10.cell? ⟨b, i, none⟩ = some (.slice none 0 0)) := fun i h0 h1 => (U10.out.cell (p := ⟨b, i, none⟩) hbw hnb).trans (HG.out.ce i h0 h1)
  clear b10
  go_wp2
  go_ret
  exact ⟨rfl, U10.out⟩

end Go.Proofs.Ytdddbfincmodjaa
