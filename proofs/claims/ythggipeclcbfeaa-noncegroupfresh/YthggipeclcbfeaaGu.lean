import Derived.Test.YthggipeclcbfeaaGw
import Derived.Laws.OwnMore
namespace Go.Proofs.Ythggipeclcbfeaa
open Go.RowKit
set_option linter.unusedVariables false
set_option linter.unusedSimpArgs false

/-- A row of a call's own, one cell an element. -/
def Rw1 (T : TypeId) (B : Nat) (w : World) (b n : Nat) (vs : List Value) : Prop := vs.length = n ∧ w.ownsRow B T 1 (.slice (some ⟨b, 0, none⟩) n n) n vs
theorem Rw1.lt {T : TypeId} {B : Nat} {w : World} {b n : Nat} {vs : List Value} (h : Rw1 T B w b n vs) : B ≤ b ∧ b < w.heap.size := World.ownsRow.lt h.2 b rfl
theorem Rw1.upd {T : TypeId} {B : Nat} {w w' : World} {b n : Nat} {vs : List Value} {S : Nat → Prop} (h : Rw1 T B w b n vs) (u : Upd S w w') (hs : ¬ S b) : Rw1 T B w' b n vs := by
  have hlt := h.lt
  obtain ⟨h0, h1, h2⟩ := h
  refine ⟨h0, h1, ?_⟩
  rcases h2 with h2 | ⟨g, cap, cur, e1, e2, e3, r⟩
  · exact .inl h2
  · refine .inr ⟨g, cap, cur, e1, e2, ?_, r⟩
    injection e1 with e1
    injection e1 with e1
    injection e1 with e1
    subst e1
    rw [u.block b hlt.2 hs]
    exact e3
theorem Rw1.cell {T : TypeId} {B : Nat} {w : World} {b n : Nat} {vs : List Value} (h : Rw1 T B w b n vs) {k : Nat} {u : Value} (hk : vs[k]? = some u) : w.cell? ⟨b, k, none⟩ = some u := by
  have := World.ownsRow.cells h.2 (g := b) rfl k u hk
  rw [Addr.add_lit, Nat.zero_add] at this
  exact this
theorem Rw1.free {T : TypeId} {B : Nat} {w : World} {b n : Nat} {vs : List Value} (h : Rw1 T B w b n vs) (k : Nat) : w.frozen? ⟨b, k, none⟩ = false := World.ownsRow.frozenAt h.2 k
theorem Rw1.set {T : TypeId} {B : Nat} {w : World} {b n : Nat} {vs : List Value} (h : Rw1 T B w b n vs) (k : Nat) (u : Value) : Rw1 T B (w.setCell ⟨b, k, none⟩ u) b n (vs.set k u) :=
  ⟨by rw [List.length_set]; exact h.1, (World.ownsRow.stored h.2 k u).1⟩
/-- The law's state: the group, what is remembered of it, the two rows. -/
structure NG (W0 : World) (B g c sg n cap : Nat) (p : Nat → Nat) (bw bc : Nat) (a : Int) (vd : Value) (R : Int) (rd md : Nat → Int) (Wl : List Bool) (Cl : List Int) (L : List (Int × Int × Int)) (i : Nat) (w : World) : Prop where
  D : GD w B g c sg n cap p vd R rd md L
  I : GI a R i n rd md Wl Cl L
  ow : Rw1 4 B w bw n (Wl.map Value.bool)
  oc : Rw1 3 B w bc n (Cl.map (Value.int .i64))
  nb : bw ≠ bc
  vb : vd.ownBlock ≠ some bw ∧ vd.ownBlock ≠ some bc
  hb : Below W0.heap.size W0 w
  lo : W0.heap.size ≤ g ∧ W0.heap.size ≤ c ∧ ∀ j, j < n → W0.heap.size ≤ p j
  WB : W0.heap.size ≤ B
section
variable {W0 : World} {B g c sg n cap : Nat} {p : Nat → Nat} {bw bc : Nat} {a : Int} {vd : Value} {R : Int} {rd md : Nat → Int} {Wl : List Bool} {Cl : List Int} {L : List (Int × Int × Int)} {i : Nat} {w w' : World}
theorem bafter {S : Nat → Prop} {B : Nat} {w0 w w' : World} (h : Below B w0 w) (u : Upd S w w') (hB : B ≤ w0.heap.size) (hs : ∀ k, S k → B ≤ k) : Below B w0 w' := h.trans (u.below (Nat.le_trans hB h.size) hs)
theorem NG.bel (h : NG W0 B g c sg n cap p bw bc a vd R rd md Wl Cl L i w) (b : Below w.heap.size w w') : NG W0 B g c sg n cap p bw bc a vd R rd md Wl Cl L i w' :=
  ⟨h.D.bel b, h.I, h.ow.upd (S := fun _ => False) (Upd.of_below b) id, h.oc.upd (S := fun _ => False) (Upd.of_below b) id, h.nb, h.vb, bafter (S := fun _ => False) h.hb (Upd.of_below b) (Nat.le_refl _) (fun _ => False.elim), h.lo, h.WB⟩
theorem NG.pass (h : NG W0 B g c sg n cap p bw bc a vd R rd md Wl Cl L i w) (b : Int) (b0 : 0 ≤ b) (b1 : b ≤ 1073741824) (hi : i < 3010) (D' : GD w' B g c sg n cap p vd (R + b) rd md L) (u : Upd (· = c) w w') : NG W0 B g c sg n cap p bw bc a vd (R + b) rd md Wl Cl L (i + 1) w' := by
  have hc := h.D.gB.2.2
  have l1 := h.ow.lt
  have l2 := h.oc.lt
  exact ⟨D', h.I.pass b b0 b1 hi, h.ow.upd u (fun e => by have e : bw = c := e; omega), h.oc.upd u (fun e => by have e : bc = c := e; omega), h.nb, h.vb, bafter h.hb u (Nat.le_refl _) (fun k e => by have e : k = c := e; rw [e]; exact h.lo.2.1), h.lo, h.WB⟩
theorem NG.w1 (h : NG W0 B g c sg n cap p bw bc a vd R rd md Wl Cl L i w) {k : Nat} (hk : k < n) : ∃ b, Wl[k]? = some b ∧ w.cell? ⟨bw, k, none⟩ = some (.bool b) ∧ w.frozen? ⟨bw, k, none⟩ = false := by
  have := h.I.wl
  obtain ⟨b, hb⟩ : ∃ b, Wl[k]? = some b := ⟨_, List.getElem?_eq_getElem (by omega)⟩
  exact ⟨b, hb, h.ow.cell (by rw [List.getElem?_map, hb]; rfl), h.ow.free k⟩
theorem NG.c1 (h : NG W0 B g c sg n cap p bw bc a vd R rd md Wl Cl L i w) {k : Nat} (hk : k < n) : w.cell? ⟨bc, k, none⟩ = some (.int .i64 (cnt L (k : Int) : Int)) ∧ w.frozen? ⟨bc, k, none⟩ = false :=
  ⟨h.oc.cell (by rw [List.getElem?_map, h.I.cc k hk]; rfl), h.oc.free k⟩
theorem NG.wipe (h : NG W0 B g c sg n cap p bw bc a vd R rd md Wl Cl L i w) {k : Nat} (hk : k < n) (D' : GD w' B g c sg n cap p vd R (fun j => if j = k then 0 else rd j) (fun j => if j = k then 0 else md j) L) (u : Upd (· = p k) w w') :
    (∃ b, w'.cell? ⟨bw, k, none⟩ = some (.bool b)) ∧ w'.frozen? ⟨bw, k, none⟩ = false ∧ NG W0 B g c sg n cap p bw bc a vd R (fun j => if j = k then 0 else rd j) (fun j => if j = k then 0 else md j) (Wl.set k true) Cl L i (w'.setCell ⟨bw, k, none⟩ (.bool true)) := by
  have hp := (h.D.gp k hk).2.2.2
  have l1 := h.ow.lt
  have l2 := h.oc.lt
  have ow := h.ow.upd u (fun e => by have e : bw = p k := e; omega)
  have oc := h.oc.upd u (fun e => by have e : bc = p k := e; omega)
  have u2 : Upd (· = bw) w' (w'.setCell ⟨bw, k, none⟩ (.bool true)) := (Upd.refl (· = bw) w').setCell (p := ⟨bw, k, none⟩) (.inl rfl) _
  obtain ⟨b, hb, _⟩ := h.w1 hk
  refine ⟨⟨b, ow.cell (by rw [List.getElem?_map, hb]; rfl)⟩, ow.free k, ?_⟩
  refine ⟨D'.upd u2 (fun j hj e => by have e : j = bw := e; omega) (fun j hj e => by have e : j = bw := e; subst e; exact h.vb.1 hj), h.I.wipe k hk, ?_, oc.upd u2 (fun e => h.nb (Eq.symm e)), h.nb, h.vb, bafter (bafter h.hb u (Nat.le_refl _) (fun j e => by have e : j = p k := e; rw [e]; exact h.lo.2.2 k hk)) u2 (Nat.le_refl _) (fun j e => by have e : j = bw := e; have := h.WB; omega), h.lo, h.WB⟩
  rw [List.map_set]
  exact ow.set k _
/-- The mark of a wipe is taken off: the group stands as it stood. -/
theorem NG.unmark (h : NG W0 B g c sg n cap p bw bc a vd R rd md Wl Cl L i w) (k : Nat) : GD (w.setCell ⟨bw, k, none⟩ (.bool false)) B g c sg n cap p vd R rd md L := by
  have l1 := h.ow.lt
  have u2 : Upd (· = bw) w (w.setCell ⟨bw, k, none⟩ (.bool false)) := (Upd.refl (· = bw) w).setCell (p := ⟨bw, k, none⟩) (.inl rfl) _
  exact h.D.upd u2 (fun j hj e => by have e : j = bw := e; omega) (fun j hj e => by have e : j = bw := e; subst e; exact h.vb.1 hj)
theorem NG.fresh (h : NG W0 B g c sg n cap p bw bc a vd R rd md Wl Cl L i w) {k : Nat} (hk : k < n) (hw : Wl[k]? = some false) : Fr.gx (tos L) k < Fr.nv R (made R (rd k) (md k) + 1) := by
  have hg := h.I.gn k hw
  have hr := h.I.rr k hk
  have r0 := h.I.r0
  have a0 := h.I.a0
  have ii := h.I.ii
  unfold made
  unfold Fr.nv at *
  split <;> omega
theorem NG.fresh1 (h : NG W0 B g c sg n cap p bw bc a vd R rd md Wl Cl L i w) {k : Nat} (hk : k < n) (hw : Wl[k]? = some true) : Fr.gx (tos L) k < Fr.nv (R + 1) (made (R + 1) (rd k) (md k) + 1) := by
  have hg := h.I.gw k hw
  have r0 := h.I.r0
  have a0 := h.I.a0
  unfold made
  rw [if_neg (by omega)]
  unfold Fr.nv at *
  omega
theorem NG.made_le (h : NG W0 B g c sg n cap p bw bc a vd R rd md Wl Cl L i w) {k : Nat} (hk : k < n) : 0 ≤ made R (rd k) (md k) ∧ made R (rd k) (md k) ≤ i ∧ made R (rd k) (md k) ≠ 65535 := by
  have hr := h.I.rr k hk
  have ii := h.I.ii
  unfold made
  split <;> omega
/-- A draw, the mark taken off ahead of it, the count behind it. -/
theorem NG.draw (h : NG W0 B g c sg n cap p bw bc a vd R rd md Wl Cl L i w) {k : Nat} (hk : k < n) (hi : i < 3010) (hg : Fr.gx (tos L) k < Fr.nv R (made R (rd k) (md k) + 1)) {vd' : Value} {w3 w4 : World}
    (D' : GD w3 B g c sg n cap p vd' R (fun j => if j = k then R else rd j) (fun j => if j = k then made R (rd k) (md k) + 1 else md j) (L ++ [((k : Int), R, made R (rd k) (md k) + 1)]))
    (hv : vd'.ownBlock = vd.ownBlock ∨ ∃ j, vd'.ownBlock = some j ∧ (w.setCell ⟨bw, k, none⟩ (.bool false)).heap.size ≤ j)
    (u : Upd (fun i => i = p k ∨ i = g ∨ vd.ownBlock = some i) (w.setCell ⟨bw, k, none⟩ (.bool false)) w3) (b4 : Below w3.heap.size w3 w4) :
    w4.cell? ⟨bc, k, none⟩ = some (.int .i64 (cnt L (k : Int) : Int)) ∧ w4.frozen? ⟨bc, k, none⟩ = false ∧
    NG W0 B g c sg n cap p bw bc a vd' R (fun j => if j = k then R else rd j) (fun j => if j = k then made R (rd k) (md k) + 1 else md j) (Wl.set k false) (Cl.set k ((cnt L (k : Int) : Int) + 1)) (L ++ [((k : Int), R, made R (rd k) (md k) + 1)]) (i + 1) (w4.setCell ⟨bc, k, none⟩ (.int .i64 ((cnt L (k : Int) : Int) + 1))) := by
  have hp := (h.D.gp k hk).2.2.2
  have hgB := h.D.gB.1
  have l1 := h.ow.lt
  have l2 := h.oc.lt
  obtain ⟨m0, m1, m2⟩ := h.made_le hk
  have u2 : Upd (· = bw) w (w.setCell ⟨bw, k, none⟩ (.bool false)) := (Upd.refl (· = bw) w).setCell (p := ⟨bw, k, none⟩) (.inl rfl) _
  have n1 : ¬ (bw = p k ∨ bw = g ∨ vd.ownBlock = some bw) := by
    rintro (e | e | e)
    · omega
    · omega
    · exact h.vb.1 e
  have n2 : ¬ (bc = p k ∨ bc = g ∨ vd.ownBlock = some bc) := by
    rintro (e | e | e)
    · omega
    · omega
    · exact h.vb.2 e
  have u4 : Upd (fun _ => False) w3 w4 := Upd.of_below b4
  have ow := ((h.ow.set k (.bool false)).upd u n1).upd u4 id
  have oc := ((h.oc.upd u2 (fun e => h.nb (Eq.symm e))).upd u n2).upd u4 id
  have u5 : Upd (· = bc) w4 (w4.setCell ⟨bc, k, none⟩ (.int .i64 ((cnt L (k : Int) : Int) + 1))) := (Upd.refl (· = bc) w4).setCell (p := ⟨bc, k, none⟩) (.inl rfl) _
  have sz : bw < (w.setCell ⟨bw, k, none⟩ (.bool false)).heap.size ∧ bc < (w.setCell ⟨bw, k, none⟩ (.bool false)).heap.size := by
    have := u2.size
    omega
  have vb' : vd'.ownBlock ≠ some bw ∧ vd'.ownBlock ≠ some bc := by
    rcases hv with e | ⟨j, e, hj⟩
    · rw [e]; exact h.vb
    · rw [e]
      constructor
      · intro q; injection q with q; omega
      · intro q; injection q with q; omega
  have WB := h.WB
  refine ⟨oc.cell (by rw [List.getElem?_map, h.I.cc k hk]; rfl), oc.free k, (D'.bel b4).upd u5 (fun j hj e => by have e : j = bc := e; omega) (fun j hj e => by have e : j = bc := e; subst e; exact vb'.2 hj), h.I.draw k hk h.D.n7 _ m0 m1 hi hg, ?_, ?_, h.nb, vb', ?_, h.lo, h.WB⟩
  · have := ow.upd u5 (fun e => h.nb e)
    rw [List.map_set]
    exact this
  · rw [List.map_set]
    exact oc.set k _
  · refine bafter (bafter (bafter (bafter h.hb u2 (Nat.le_refl _) (fun j e => by have e : j = bw := e; omega)) u (Nat.le_refl _) ?_) u4 (Nat.le_refl _) (fun _ => False.elim)) u5 (Nat.le_refl _) (fun j e => by have e : j = bc := e; omega)
    rintro j (e | e | e)
    · rw [e]; exact h.lo.2.2 k hk
    · rw [e]; exact h.lo.1
    · have := (h.D.D.lt j e).1; omega
end
/-- 'Drawn' of stamps, none or some. -/
theorem clone_nilS (w : World) :
    Calls Try.prog 30 #[.slice none 0 0] w fun e w' => e = .returned (.slice none 0 0) ∧ w' = w := by
  have kn := fun (w : World) => Lib.run_eql_slice_nil (P := Try.prog) w 45 50 none 0 0 0 0 Try.underlying45
  go_enter Try.func30, Try.ntmps30
  go_wp2
  go_ret
  exact ⟨rfl, rfl⟩

end Go.Proofs.Ythggipeclcbfeaa
