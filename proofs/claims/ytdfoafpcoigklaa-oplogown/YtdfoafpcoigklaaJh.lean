import Derived.Test.YtdfoafpcoigklaaJn
import Derived.Test.YtdfoafpcoigklaaJp
import Derived.Test.YtdfoafpcoigklaaJq
import Derived.Test.YtdfoafpcoigklaaJt
namespace Go.Proofs.Ytdfoafpcoigklaa
open Go.RowKit Go.Maps
open Classical
set_option linter.unusedVariables false
set_option linter.unusedSimpArgs false

set_option maxRecDepth 100000 in
theorem bookEn_none (b : Nat) (a : Option Addr) (c : Nat) (w : World) : Calls Try.prog 48 #[.pointer (some ⟨b, 0, none⟩), .slice a 0 c] w fun e w' => e = .returned (.tuple #[]) ∧ w' = w := by
  go_enter Try.func48, Try.ntmps48
  go_wp2
  go_end0
  exact ⟨rfl, rfl⟩
set_option maxRecDepth 100000 in
set_option maxHeartbeats 1000000 in
theorem bookEn_any (b A B : Nat) (v : Value) (V : List (SV En)) (x : SV En) (w : World) (G : CY yE zEnB 3 w b A B v V) (hx : OwnY yE A w x.v x.D) (hxb : x.v.ownBlock ≠ some b) (h0 : 0 < x.D.length) (h1 : x.D.length ≤ 1000) (hn : ∀ y, y ∈ V → y.a ≠ x.a) (hV : V.length ≤ 100) :
    Calls Try.prog 48 #[.pointer (some ⟨b, 0, none⟩), .slice x.a x.D.length x.c] w fun e w' => e = .returned (.tuple #[]) ∧ ∃ v' wa w3, w' = w3.setCell ⟨b, 3, none⟩ v' ∧ Below w.heap.size w wa ∧ wa.grownBy w3 v.ownBlock ∧ CY yE zEnB 3 w' b A B v' (V ++ [x]) ∧ Upd (fun k => k = b ∨ v.ownBlock = some k) w w' ∧ (v'.ownBlock = v.ownBlock ∨ ∃ k, v'.ownBlock = some k ∧ w.heap.size ≤ k) := by
  have hbw : b < w.heap.size := Nat.lt_of_lt_of_le G.lt G.ltB
  have d5 := G.cp
  have y5 : ∀ ob, (w.alloc ob).cell? ⟨b, 3, none⟩ = some v := fun ob => (World.cell?_alloc_past _ _ _ hbw).trans d5
  have ba := (Below.refl w.heap.size w).alloc (Nat.le_refl _) (.cells #[.slice x.a x.D.length x.c] 22)
  have GA := hide (G.bel ba)
  have XA := hide (hx.grow ba)
  have SB := hide (sl_box (Y := zEnB) w x 22)
  have hB := G.ltB
  have hbB := G.lt
  clear G hx
  generalize hxl : x.D.length = n at *
  have HXL := hide hxl
  have SB2 : Hid (SlY zEnB (w.alloc (.cells #[.slice x.a n x.c] 22)) (some ⟨w.heap.size, 0, none⟩) 1 1 [x]) := by
    have := SB.out
    simp only [zEnB, yS, hxl] at this
    exact this
  clear hxl SB
  go_enter Try.func48, Try.ntmps48
  go_wp2_with (at_builtin; go_must (refine appY kzEnB _ rfl (.tmp 11) (.tmp 13) rfl B V v rfl (some ⟨w.heap.size, 0, none⟩) 1 1 rfl [x] SB2.out GA.out.o (by simp; omega) (by unfold maxLen; omega) (by show (_ + 1) * 24 ≤ _; omega) ?_))
  intro v' w3 o3 g3 n3
  have N3 : Hid (v'.ownBlock = v.ownBlock ∨ ∃ k, v'.ownBlock = some k ∧ w.heap.size ≤ k) := n3.imp id (fun ⟨k', h1, h2⟩ => ⟨k', h1, by first | omega | (simp at h2; omega)⟩)
  have zc := gcell g3 GA.out.cp (fun e => by have := (GA.out.o.blk b e).1; omega)
  have zf := gfroz g3 (by simp; omega) GA.out.fp (fun e => by have := (GA.out.o.blk b e).1; omega)
  have G4 := hide (GA.out.push hTEnB XA.out hxb (by rw [HXL.out]; exact h0) (by rw [HXL.out]; exact h1) hn g3 o3)
  have U4 : Hid (Upd (fun k => k = b ∨ v.ownBlock = some k) w (w3.setCell ⟨b, 3, none⟩ v')) := (((Upd.of_below ba).trans (gupd g3 (fun k e => .inr e)))).setCell (.inl (.inl rfl)) _
  have GG := hide g3
  have BA := hide ba
  obtain ⟨r2, q2, hv2, _⟩ := o3.form
  clear o3 g3 GA XA SB2 ba n3
  generalize (V ++ [x]).length = l2 at hv2
  subst hv2
  go_wp2
  go_end0
  exact ⟨rfl, _, _, w3, rfl, BA.out, GG.out, G4.out, U4.out, N3.out⟩
theorem apartEn_by (b A B : Nat) (v : Value) (V : List (SV En)) (w : World) (G : CY yE zEnB 3 w b A B v V) (hV : V.length ≤ 100) :
    Calls Try.prog 68 #[.pointer (some ⟨b, 0, none⟩)] w fun e w' => e = .returned (.bool true) ∧ Upd (inY V) w w' := by
  rcases G.o.2 with ⟨hv, hl⟩ | ⟨g, cap, cur, hv, h2, h3, h4, h5, _⟩
  · subst hv
    exact (apartEntries_nil b w G.cp).mono fun e w' ⟨he, bl⟩ => ⟨he, Upd.of_below bl⟩
  · subst hv
    obtain ⟨lb, own⟩ := G.lb (mk := mkEnB) hTEnB kzEnB (fun x => rfl) rfl (by omega)
    exact (apartEn_any b g cap V.length (V.map entY) w G.cp (by simp) h4 h5 lb own).mono fun e w' ⟨he, u⟩ => ⟨he, u.mono (fun k _ hk => G.blk hk)⟩

set_option maxRecDepth 100000 in
theorem bookCl_none (b : Nat) (a : Option Addr) (c : Nat) (w : World) : Calls Try.prog 49 #[.pointer (some ⟨b, 0, none⟩), .slice a 0 c] w fun e w' => e = .returned (.tuple #[]) ∧ w' = w := by
  go_enter Try.func49, Try.ntmps49
  go_wp2
  go_end0
  exact ⟨rfl, rfl⟩
set_option maxRecDepth 100000 in
set_option maxHeartbeats 1000000 in
theorem bookCl_any (b A B : Nat) (v : Value) (V : List (SV Cl)) (x : SV Cl) (w : World) (G : CY yCl zClB 4 w b A B v V) (hx : OwnY yCl A w x.v x.D) (hxb : x.v.ownBlock ≠ some b) (h0 : 0 < x.D.length) (h1 : x.D.length ≤ 1000) (hn : ∀ y, y ∈ V → y.a ≠ x.a) (hV : V.length ≤ 100) :
    Calls Try.prog 49 #[.pointer (some ⟨b, 0, none⟩), .slice x.a x.D.length x.c] w fun e w' => e = .returned (.tuple #[]) ∧ ∃ v' wa w3, w' = w3.setCell ⟨b, 4, none⟩ v' ∧ Below w.heap.size w wa ∧ wa.grownBy w3 v.ownBlock ∧ CY yCl zClB 4 w' b A B v' (V ++ [x]) ∧ Upd (fun k => k = b ∨ v.ownBlock = some k) w w' ∧ (v'.ownBlock = v.ownBlock ∨ ∃ k, v'.ownBlock = some k ∧ w.heap.size ≤ k) := by
  have hbw : b < w.heap.size := Nat.lt_of_lt_of_le G.lt G.ltB
  have d5 := G.cp
  have y5 : ∀ ob, (w.alloc ob).cell? ⟨b, 4, none⟩ = some v := fun ob => (World.cell?_alloc_past _ _ _ hbw).trans d5
  have ba := (Below.refl w.heap.size w).alloc (Nat.le_refl _) (.cells #[.slice x.a x.D.length x.c] 58)
  have GA := hide (G.bel ba)
  have XA := hide (hx.grow ba)
  have SB := hide (sl_box (Y := zClB) w x 58)
  have hB := G.ltB
  have hbB := G.lt
  clear G hx
  generalize hxl : x.D.length = n at *
  have HXL := hide hxl
  have SB2 : Hid (SlY zClB (w.alloc (.cells #[.slice x.a n x.c] 58)) (some ⟨w.heap.size, 0, none⟩) 1 1 [x]) := by
    have := SB.out
    simp only [zClB, yS, hxl] at this
    exact this
  clear hxl SB
  go_enter Try.func49, Try.ntmps49
  go_wp2_with (at_builtin; go_must (refine appY kzClB _ rfl (.tmp 11) (.tmp 13) rfl B V v rfl (some ⟨w.heap.size, 0, none⟩) 1 1 rfl [x] SB2.out GA.out.o (by simp; omega) (by unfold maxLen; omega) (by show (_ + 1) * 24 ≤ _; omega) ?_))
  intro v' w3 o3 g3 n3
  have N3 : Hid (v'.ownBlock = v.ownBlock ∨ ∃ k, v'.ownBlock = some k ∧ w.heap.size ≤ k) := n3.imp id (fun ⟨k', h1, h2⟩ => ⟨k', h1, by first | omega | (simp at h2; omega)⟩)
  have zc := gcell g3 GA.out.cp (fun e => by have := (GA.out.o.blk b e).1; omega)
  have zf := gfroz g3 (by simp; omega) GA.out.fp (fun e => by have := (GA.out.o.blk b e).1; omega)
  have G4 := hide (GA.out.push hTClB XA.out hxb (by rw [HXL.out]; exact h0) (by rw [HXL.out]; exact h1) hn g3 o3)
  have U4 : Hid (Upd (fun k => k = b ∨ v.ownBlock = some k) w (w3.setCell ⟨b, 4, none⟩ v')) := (((Upd.of_below ba).trans (gupd g3 (fun k e => .inr e)))).setCell (.inl (.inl rfl)) _
  have GG := hide g3
  have BA := hide ba
  obtain ⟨r2, q2, hv2, _⟩ := o3.form
  clear o3 g3 GA XA SB2 ba n3
  generalize (V ++ [x]).length = l2 at hv2
  subst hv2
  go_wp2
  go_end0
  exact ⟨rfl, _, _, w3, rfl, BA.out, GG.out, G4.out, U4.out, N3.out⟩
theorem apartCl_by (b A B : Nat) (v : Value) (V : List (SV Cl)) (w : World) (G : CY yCl zClB 4 w b A B v V) (hV : V.length ≤ 100) :
    Calls Try.prog 69 #[.pointer (some ⟨b, 0, none⟩)] w fun e w' => e = .returned (.bool true) ∧ Upd (inY V) w w' := by
  rcases G.o.2 with ⟨hv, hl⟩ | ⟨g, cap, cur, hv, h2, h3, h4, h5, _⟩
  · subst hv
    exact (apartCells_nil b w G.cp).mono fun e w' ⟨he, bl⟩ => ⟨he, Upd.of_below bl⟩
  · subst hv
    obtain ⟨lb, own⟩ := G.lb (mk := mkClB) hTClB kzClB (fun x => rfl) rfl (by omega)
    exact (apartCl_any b g cap V.length (V.map entY) w G.cp (by simp) h4 h5 lb own).mono fun e w' ⟨he, u⟩ => ⟨he, u.mono (fun k _ hk => G.blk hk)⟩

set_option maxRecDepth 100000 in
theorem bookRs_none (b : Nat) (a : Option Addr) (c : Nat) (w : World) : Calls Try.prog 50 #[.pointer (some ⟨b, 0, none⟩), .slice a 0 c] w fun e w' => e = .returned (.tuple #[]) ∧ w' = w := by
  go_enter Try.func50, Try.ntmps50
  go_wp2
  go_end0
  exact ⟨rfl, rfl⟩
set_option maxRecDepth 100000 in
set_option maxHeartbeats 1000000 in
theorem bookRs_any (b A B : Nat) (v : Value) (V : List (SV Rs)) (x : SV Rs) (w : World) (G : CY yRs zRsB 6 w b A B v V) (hx : OwnY yRs A w x.v x.D) (hxb : x.v.ownBlock ≠ some b) (h0 : 0 < x.D.length) (h1 : x.D.length ≤ 1000) (hn : ∀ y, y ∈ V → y.a ≠ x.a) (hV : V.length ≤ 100) :
    Calls Try.prog 50 #[.pointer (some ⟨b, 0, none⟩), .slice x.a x.D.length x.c] w fun e w' => e = .returned (.tuple #[]) ∧ ∃ v' wa w3, w' = w3.setCell ⟨b, 6, none⟩ v' ∧ Below w.heap.size w wa ∧ wa.grownBy w3 v.ownBlock ∧ CY yRs zRsB 6 w' b A B v' (V ++ [x]) ∧ Upd (fun k => k = b ∨ v.ownBlock = some k) w w' ∧ (v'.ownBlock = v.ownBlock ∨ ∃ k, v'.ownBlock = some k ∧ w.heap.size ≤ k) := by
  have hbw : b < w.heap.size := Nat.lt_of_lt_of_le G.lt G.ltB
  have d5 := G.cp
  have y5 : ∀ ob, (w.alloc ob).cell? ⟨b, 6, none⟩ = some v := fun ob => (World.cell?_alloc_past _ _ _ hbw).trans d5
  have ba := (Below.refl w.heap.size w).alloc (Nat.le_refl _) (.cells #[.slice x.a x.D.length x.c] 59)
  have GA := hide (G.bel ba)
  have XA := hide (hx.grow ba)
  have SB := hide (sl_box (Y := zRsB) w x 59)
  have hB := G.ltB
  have hbB := G.lt
  clear G hx
  generalize hxl : x.D.length = n at *
  have HXL := hide hxl
  have SB2 : Hid (SlY zRsB (w.alloc (.cells #[.slice x.a n x.c] 59)) (some ⟨w.heap.size, 0, none⟩) 1 1 [x]) := by
    have := SB.out
    simp only [zRsB, yS, hxl] at this
    exact this
  clear hxl SB
  go_enter Try.func50, Try.ntmps50
  go_wp2_with (at_builtin; go_must (refine appY kzRsB _ rfl (.tmp 11) (.tmp 13) rfl B V v rfl (some ⟨w.heap.size, 0, none⟩) 1 1 rfl [x] SB2.out GA.out.o (by simp; omega) (by unfold maxLen; omega) (by show (_ + 1) * 24 ≤ _; omega) ?_))
  intro v' w3 o3 g3 n3
  have N3 : Hid (v'.ownBlock = v.ownBlock ∨ ∃ k, v'.ownBlock = some k ∧ w.heap.size ≤ k) := n3.imp id (fun ⟨k', h1, h2⟩ => ⟨k', h1, by first | omega | (simp at h2; omega)⟩)
  have zc := gcell g3 GA.out.cp (fun e => by have := (GA.out.o.blk b e).1; omega)
  have zf := gfroz g3 (by simp; omega) GA.out.fp (fun e => by have := (GA.out.o.blk b e).1; omega)
  have G4 := hide (GA.out.push hTRsB XA.out hxb (by rw [HXL.out]; exact h0) (by rw [HXL.out]; exact h1) hn g3 o3)
  have U4 : Hid (Upd (fun k => k = b ∨ v.ownBlock = some k) w (w3.setCell ⟨b, 6, none⟩ v')) := (((Upd.of_below ba).trans (gupd g3 (fun k e => .inr e)))).setCell (.inl (.inl rfl)) _
  have GG := hide g3
  have BA := hide ba
  obtain ⟨r2, q2, hv2, _⟩ := o3.form
  clear o3 g3 GA XA SB2 ba n3
  generalize (V ++ [x]).length = l2 at hv2
  subst hv2
  go_wp2
  go_end0
  exact ⟨rfl, _, _, w3, rfl, BA.out, GG.out, G4.out, U4.out, N3.out⟩
theorem apartRs_by (b A B : Nat) (v : Value) (V : List (SV Rs)) (w : World) (G : CY yRs zRsB 6 w b A B v V) (hV : V.length ≤ 100) :
    Calls Try.prog 71 #[.pointer (some ⟨b, 0, none⟩)] w fun e w' => e = .returned (.bool true) ∧ Upd (inY V) w w' := by
  rcases G.o.2 with ⟨hv, hl⟩ | ⟨g, cap, cur, hv, h2, h3, h4, h5, _⟩
  · subst hv
    exact (apartResults_nil b w G.cp).mono fun e w' ⟨he, bl⟩ => ⟨he, Upd.of_below bl⟩
  · subst hv
    obtain ⟨lb, own⟩ := G.lb (mk := mkRsB) hTRsB kzRsB (fun x => rfl) rfl (by omega)
    exact (apartRs_any b g cap V.length (V.map entY) w G.cp (by simp) h4 h5 lb own).mono fun e w' ⟨he, u⟩ => ⟨he, u.mono (fun k _ hk => G.blk hk)⟩

end Go.Proofs.Ytdfoafpcoigklaa
