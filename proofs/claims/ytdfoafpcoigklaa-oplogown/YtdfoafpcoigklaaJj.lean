import Derived.Test.YtdfoafpcoigklaaJi
namespace Go.Proofs.Ytdfoafpcoigklaa
open Go.RowKit Go.Maps
open Classical
set_option linter.unusedVariables false
set_option linter.unusedSimpArgs false

section
variable {α β : Type} {Y : Lay α} {Z : Lay (SV α)} {Y' : Lay β} {p : Nat} {w w' : World} {b A B : Nat} {v : Value} {V : List (SV α)}
theorem CY.upd {S : Nat → Prop} (G : CY Y Z p w b A B v V) (u : Upd S w w') (hb : ¬ S b) (hr : ∀ g, v.ownBlock = some g → ¬ S g) (hl : ∀ x, x ∈ V → ∀ g, x.v.ownBlock = some g → ¬ S g) : CY Y Z p w' b A B v V := by
  have hlt : b < w.heap.size := Nat.lt_of_lt_of_le G.lt G.ltB
  exact ⟨G.lt, Nat.le_trans G.ltB u.size, (u.cell (p := ⟨b, p, none⟩) hlt hb).trans G.cp, (u.frozen (p := ⟨b, p, none⟩) hlt hb).trans G.fp, G.o.upd1 u hr, fun x hx => ⟨(G.ev x hx).1.upd1 u (hl x hx), (G.ev x hx).2⟩, G.nb, G.dif⟩
theorem CY.notin (G : CY Y Z p w b A B v V) {lim : Nat} {v' : Value} {l' : List β} (h : OwnY Y' lim w v' l') (hT : Y'.T ≠ Y.T) : ∀ g, v'.ownBlock = some g → ¬ inY V g := fun g hg ⟨x, hx, e⟩ =>
  h.apart (G.ev x hx).1 hT g hg (by unfold SV.v; rw [e]; rfl)
theorem CY.notb (G : CY Y Z p w b A B v V) : ¬ inY V b := fun ⟨x, hx, e⟩ => G.nb x hx (by unfold SV.v; rw [e]; rfl)
theorem CY.ge (G : CY Y Z p w b A B v V) {k : Nat} (h : inY V k) : A ≤ k ∧ k ≠ b := by
  refine ⟨?_, fun e => by subst e; exact G.notb h⟩
  obtain ⟨x, hx, e⟩ := h
  exact ((G.ev x hx).1.blk k (by unfold SV.v; rw [e]; rfl)).1
end
set_option maxRecDepth 100000 in
set_option maxHeartbeats 1000000 in
theorem apart_b3 (b A B : Nat) (v1 v2 v3 : Value) (V1 : List (SV En)) (V2 : List (SV Cl)) (V3 : List (SV Rs)) (w : World) (G : B3 w b A B v1 v2 v3 V1 V2 V3) (h1 : V1.length ≤ 100) (h2 : V2.length ≤ 100) (h3 : V3.length ≤ 100) :
    Calls Try.prog 51 #[.pointer (some ⟨b, 0, none⟩)] w fun e w' => e = .returned (.bool true) ∧ Upd (fun k => A ≤ k ∧ k ≠ b) w w' := by
  have hbw : b < w.heap.size := Nat.lt_of_lt_of_le G.e.lt G.e.ltB
  have hnb : ¬ (A ≤ b ∧ b ≠ b) := fun h => h.2 rfl
  have HG := hide G
  clear G
  go_enter Try.func51, Try.ntmps51
  go_wp2_with fail
  refine (apartBytes_nil b w (HG.out.ce 0 (by omega) (by omega) (by omega) (by omega))).mono ?_
  rintro e w1 ⟨rfl, b1⟩
  have G1 := hide (HG.out.bel b1)
  have U1 : Hid (Upd (fun k => A ≤ k ∧ k ≠ b) w w1) := Upd.of_below b1
  clear b1
  go_wp2_with fail
  refine (apartInts_nil b w1 (G1.out.ce 1 (by omega) (by omega) (by omega) (by omega))).mono ?_
  rintro e w2 ⟨rfl, b1⟩
  have G2 := hide (G1.out.bel b1)
  have U2 : Hid (Upd (fun k => A ≤ k ∧ k ≠ b) w w2) := U1.out.trans (Upd.of_below b1)
  clear b1
  go_wp2_with fail
  refine (apartVector_nil b w2 (G2.out.ce 2 (by omega) (by omega) (by omega) (by omega))).mono ?_
  rintro e w3 ⟨rfl, b1⟩
  have G3 := hide (G2.out.bel b1)
  have U3 : Hid (Upd (fun k => A ≤ k ∧ k ≠ b) w w3) := U2.out.trans (Upd.of_below b1)
  clear b1
  go_wp2_with fail
  refine (apartEn_by b A B v1 V1 w3 G3.out.e h1).mono ?_
  rintro e w4 ⟨rfl, u4⟩
  have U4 : Hid (Upd (fun k => A ≤ k ∧ k ≠ b) w w4) := U3.out.trans (u4.mono (fun k _ h => G3.out.e.ge h))
  have C4 := hide (G3.out.c.upd u4 G3.out.e.notb (G3.out.e.notin G3.out.c.o (by decide)) (fun x hx => G3.out.e.notin (G3.out.c.ev x hx).1 (by decide)))
  have R4 := hide (G3.out.r.upd u4 G3.out.e.notb (G3.out.e.notin G3.out.r.o (by decide)) (fun x hx => G3.out.e.notin (G3.out.r.ev x hx).1 (by decide)))
  clear u4
  go_wp2_with fail
  refine (apartCl_by b A B v2 V2 w4 C4.out h2).mono ?_
  rintro e w5 ⟨rfl, u5⟩
  have U5 : Hid (Upd (fun k => A ≤ k ∧ k ≠ b) w w5) := U4.out.trans (u5.mono (fun k _ h => C4.out.ge h))
  have R5 := hide (R4.out.upd u5 C4.out.notb (C4.out.notin R4.out.o (by decide)) (fun x hx => C4.out.notin (R4.out.ev x hx).1 (by decide)))
  clear u5
  have CE : Hid (∀ w5, Upd (fun k => A ≤ k ∧ k ≠ b) w w5 → ∀ i, i < 10 → i ≠ 3 → i ≠ 4 → i ≠ 6 → w5.cell? ⟨b, i, none⟩ = some (.slice none 0 0)) := fun w5 u i a1 a2 a3 a4 => (u.cell (p := ⟨b, i, none⟩) hbw hnb).trans (HG.out.ce i a1 a2 a3 a4)
  go_wp2_with fail
  refine (apartRows_nil b w5 (CE.out w5 U5.out 5 (by omega) (by omega) (by omega) (by omega))).mono ?_
  rintro e w6 ⟨rfl, b6⟩
  have U6 : Hid (Upd (fun k => A ≤ k ∧ k ≠ b) w w6) := U5.out.trans (Upd.of_below b6)
  have R6 := hide (R5.out.bel b6)
  clear b6
  go_wp2_with fail
  refine (apartRs_by b A B v3 V3 w6 R6.out h3).mono ?_
  rintro e w7 ⟨rfl, u7⟩
  have U7 : Hid (Upd (fun k => A ≤ k ∧ k ≠ b) w w7) := U6.out.trans (u7.mono (fun k _ h => R6.out.ge h))
  clear u7
  go_wp2_with fail
  refine (apartStamps_nil b w7 (CE.out w7 U7.out 7 (by omega) (by omega) (by omega) (by omega))).mono ?_
  rintro e w8 ⟨rfl, b1⟩
  have U8 : Hid (Upd (fun k => A ≤ k ∧ k ≠ b) w w8) := U7.out.trans (Upd.of_below b1)
  clear b1
  go_wp2_with fail
  refine (apartAcks_nil b w8 (CE.out w8 U8.out 8 (by omega) (by omega) (by omega) (by omega))).mono ?_
  rintro e w9 ⟨rfl, b1⟩
  have U9 : Hid (Upd (fun k => A ≤ k ∧ k ≠ b) w w9) := U8.out.trans (Upd.of_below b1)
  clear b1
  go_wp2_with fail
  refine (apartMarks_nil b w9 (CE.out w9 U9.out 9 (by omega) (by omega) (by omega) (by omega))).mono ?_
  rintro e w10 ⟨rfl, b1⟩
  have U10 : Hid (Upd (fun k => A ≤ k ∧ k ≠ b) w w10) := U9.out.trans (Upd.of_below b1)
  clear b1
  go_wp2
  go_ret
  exact ⟨rfl, U10.out⟩

end Go.Proofs.Ytdfoafpcoigklaa
