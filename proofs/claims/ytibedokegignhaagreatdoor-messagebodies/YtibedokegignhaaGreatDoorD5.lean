import Derived.Laws.ResultCell
import Derived.Test.YtibedokegignhaaGreatDoorD4c
namespace Go.Proofs.YtibedokegignhaaGreatDoor
open Go.RowKit Go.Maps
open Classical
set_option linter.unusedVariables false
set_option linter.unusedSimpArgs false
theorem MBox.splice {w : World} {q : Nat} {m : Mg} {s t : Value} (h : MBox w q m s t) (o : Nat) (vs : List Value) (m' : Mg) (s' t' : Value) (ho : o + vs.length ≤ 18) (hc : m'.cs s' t' = (m.cs s t).take o ++ vs ++ (m.cs s t).drop (o + vs.length)) : MBox (sets w q o vs) q m' s' t' ∧ UB q w (sets w q o vs) := by
  have h18 : (m.cs s t).length = 18 := rfl
  refine ⟨⟨by rw [size_sets]; exact h.lt, sets_kind _ _ _ h.kind, fun i x hx => ?_, fun i => sets_free _ _ _ (h.free i)⟩, upd_sets (S := fun b => b = q) (b := q) rfl _ _ _ (Upd.refl _ _)⟩
  rw [hc] at hx
  by_cases h1 : i < o
  · rw [List.append_assoc, List.getElem?_append_left (by rw [List.length_take, h18]; omega), List.getElem?_take, if_pos h1] at hx
    rw [← setCells_sets, World.cell?_setCells_out _ _ _ _ _ (fun _ _ => .inl h1)]
    exact h.cell i x hx
  · by_cases h2 : i < o + vs.length
    · rw [List.append_assoc, List.getElem?_append_right (by rw [List.length_take, h18]; omega), List.length_take, h18, Nat.min_eq_left (by omega), List.getElem?_append_left (by omega)] at hx
      have := sets_at (b := q) vs o w (fun k hk => ⟨_, h.cell (o + k) _ (List.getElem?_eq_getElem (show o + k < (m.cs s t).length by rw [h18]; omega))⟩) (i - o) x hx
      rw [show o + (i - o) = i by omega] at this
      exact this
    · rw [List.getElem?_append_right (by rw [List.length_append, List.length_take, h18]; omega), List.length_append, List.length_take, h18, Nat.min_eq_left (by omega), List.getElem?_drop, show o + vs.length + (i - (o + vs.length)) = i by omega] at hx
      rw [← setCells_sets, World.cell?_setCells_out _ _ _ _ _ (fun _ _ => .inr (by show o + vs.length ≤ i; omega))]
      exact h.cell i x hx
theorem MBox.stAt {w : World} {q : Nat} {m : Mg} {s t : Value} (h : MBox w q m s t) (ty : TypeId) (o : Nat) (vs : List Value) (ho : o + vs.length ≤ 18) (hi : (Tryz.prog.info? ty).map (·.size) = some vs.toArray.size) (h1 : vs.toArray.all (·.oneCell') = true) : (Instr.storeAt ty (.pointer (some ⟨q, o, none⟩)) (.agg vs.toArray)).run Tryz.prog w = .ok () (sets w q o vs) := by
  have := run_storeAt_mid (P := Tryz.prog) w q o ty vs.toArray (fun j hj => ⟨by rw [h.cell (o + j) _ (List.getElem?_eq_getElem (show o + j < (m.cs s t).length by have hj2 : j < vs.length := (by simpa using hj); show o + j < 18; omega))]; rfl, h.free (o + j)⟩) hi h1
  rw [setCells_sets] at this
  exact this
theorem stInt {w : World} {q o : Nat} {y : Value} (x : Int) (h : w.cell? ⟨q, o, none⟩ = some y) (hf : w.frozen? ⟨q, o, none⟩ = false) : (Instr.storeAt 3 (.pointer (some ⟨q, o, none⟩)) (.int .i64 x)).run Tryz.prog w = .ok () (sets w q o [.int .i64 x]) := by
  show _ = Result.ok () (w.setCell ⟨q, o, none⟩ (.int .i64 x))
  go_simp
theorem stSlE {w : World} {q o : Nat} {y : Value} (a : Option Addr) (n c : Nat) (h : w.cell? ⟨q, o, none⟩ = some y) (hf : w.frozen? ⟨q, o, none⟩ = false) : (Instr.storeAt 34 (.pointer (some ⟨q, o, none⟩)) (.slice a n c)).run Tryz.prog w = .ok () (sets w q o [.slice a n c]) := by
  show _ = Result.ok () (w.setCell ⟨q, o, none⟩ (.slice a n c))
  go_simp
theorem stSlD {w : World} {q o : Nat} {y : Value} (a : Option Addr) (n c : Nat) (h : w.cell? ⟨q, o, none⟩ = some y) (hf : w.frozen? ⟨q, o, none⟩ = false) : (Instr.storeAt 36 (.pointer (some ⟨q, o, none⟩)) (.slice a n c)).run Tryz.prog w = .ok () (sets w q o [.slice a n c]) := by
  show _ = Result.ok () (w.setCell ⟨q, o, none⟩ (.slice a n c))
  go_simp
def MS (w : World) (q : Nat) (m : Mg) (L : List En) (D : List (Int × Int)) : Prop := ∃ s t, MBox w q m s t ∧ OwnY yE (q + 1) w s L ∧ OwnY yD (q + 1) w t D
theorem OwnY.far {α : Type} {Y : Lay α} {B : Nat} {w w' : World} {v : Value} {l : List α} {S : Nat → Prop} (h : OwnY Y B w v l) (u : Upd S w w') (hS : ∀ k, B ≤ k → ¬ S k) : OwnY Y B w' v l :=
  h.upd1 u (fun g hg => hS g (World.ownsRow.lt h g hg).1)
structure Rst where
  m : Mg
  L : List En
  D : List (Int × Int)
  s : Nat × Int
def rCol (l : List Int) (x : Rst) (j : Nat) (op : Bool) : Rst :=
  match j with
  | 0 => ⟨{ x.m with nd := (rI mxI l x.s : Int) }, x.L, x.D, sI mxI l x.s⟩
  | 1 => ⟨{ x.m with vw := (rI mxI l x.s : Int) }, x.L, x.D, sI mxI l x.s⟩
  | 2 => ⟨{ x.m with ls := (rI mxI l x.s : Int) }, x.L, x.D, sI mxI l x.s⟩
  | 3 => ⟨{ x.m with p := (rI mxI l x.s : Int) }, x.L, x.D, sI mxI l x.s⟩
  | 4 => ⟨{ x.m with cm := (rI mxI l x.s : Int) }, x.L, x.D, sI mxI l x.s⟩
  | 5 => ⟨{ x.m with d := rD l x.s }, x.L, x.D, sD l x.s⟩
  | 6 => if op then ⟨{ x.m with e := rE l x.s }, x.L, x.D, sE l x.s⟩ else ⟨{ x.m with e := ⟨(rI mxI l x.s : Int), (rI mxI l (sI mxI l x.s) : Int), ⟨0, 0, ⟨#[]⟩⟩⟩ }, x.L, x.D, s2 l x.s⟩
  | 7 => ⟨{ x.m with r := ((rO l x.s).k, (rO l x.s).s, (rO l x.s).v) }, x.L, x.D, sO l x.s⟩
  | 8 => ⟨x.m, esL l (sI 256 l x.s) (rI 256 l x.s), x.D, esS l (sI 256 l x.s) (rI 256 l x.s)⟩
  | 9 => ⟨x.m, x.L, dsL l (sI 7 l x.s) (rI 7 l x.s), dsS l (sI 7 l x.s) (rI 7 l x.s)⟩
  | _ => x
def U2 (b q : Nat) (w w' : World) : Prop := Upd (fun k => k = b ∨ k = q) w w'
theorem U2.refl (b q : Nat) (w : World) : U2 b q w w := Upd.refl _ _
theorem U2.trans {b q : Nat} {u v w : World} (h : U2 b q u v) (k : U2 b q v w) : U2 b q u w := Upd.trans h k
theorem U2.b {b q : Nat} {w w' : World} (h : UB b w w') : U2 b q w w' := Upd.mono h (fun k _ hk => .inl hk)
theorem U2.q {b q : Nat} {w w' : World} (h : UB q w w') : U2 b q w w' := Upd.mono h (fun k _ hk => .inr hk)
set_option maxRecDepth 100000 in
set_option maxHeartbeats 4000000 in
theorem rfield_0 (N b qm : Nat) (l : List Int) (x : Rst) (q : Int) (w : World) (hN : N ≤ qm) (hM : MS w qm x.m x.L x.D) (h : RD N w b l x.s) : Calls Tryz.prog 101 #[.agg #[.pointer (some ⟨b, 0, none⟩)], .pointer (some ⟨qm, 0, none⟩), .int .i64 0, .int .u8 q] w fun e w' => e = .returned (.tuple #[]) ∧ MS w' qm (rCol l x 0 (!decide (q = 15))).m (rCol l x 0 (!decide (q = 15))).L (rCol l x 0 (!decide (q = 15))).D ∧ RD N w' b l (rCol l x 0 (!decide (q = 15))).s ∧ U2 b qm w w' := by
  have hlt := h.lt
  obtain ⟨s_, t_, M0, OL0, OD0⟩ := hM
  have hqm := M0.lt
  have hqb : w.heap.size ≠ b := by omega
  go_enter Tryz.func101, Tryz.ntmps101
  go_upto_region 3 with fail
  obtain ⟨w1, hw1⟩ : ∃ w1, w1 = w.alloc (.cells #[.pointer (some ⟨b, 0, none⟩)] 157) := ⟨_, rfl⟩
  rw [← hw1]
  have hb01 : Below w.heap.size w w1 := by rw [hw1]; exact (Below.refl _ _).alloc (Nat.le_refl _) _
  have B1 : Bx w1 w.heap.size [.pointer (some ⟨b, 0, none⟩)] := by rw [hw1]; exact Bx.new w [.pointer (some ⟨b, 0, none⟩)] _
  have hR1 := h.later hb01
  have M1 := M0.bel hb01
  have OL1 := OL0.far (Upd.of_below (S := fun _ => False) hb01) (fun _ _ => id)
  have OD1 := OD0.far (Upd.of_below (S := fun _ => False) hb01) (fun _ _ => id)
  have hB1lt := B1.lt
  clear hw1
  refine wp_region_lit ?_
  refine vl_gen (fun T => T.size = 87 ∧ T[1]? = some (gw true (.pointer (some ⟨qm, 0, none⟩))) ∧ T[3]? = some (gw true (.int .u8 q)) ∧ T[4]? = some (gw true (.pointer (some ⟨w.heap.size, 0, none⟩)))) ⟨rfl, rfl, rfl, rfl⟩ (fun T0 ⟨hz, s1, s3, s4⟩ => ?_)
  refine vt _ (ex_move rfl (ev s1 rfl)) hz (fun A_1 zz kk s11 => ?_)
  replace s1 := kt kk s1
  replace s3 := kt kk s3
  replace s4 := kt kk s4
  replace hz := zz
  clear kk zz
  refine vt (.agg #[.pointer (some ⟨b, 0, none⟩)]) (ex_ld rfl (ev s4 rfl) (ldRd (B1.cell 0 _ rfl))) hz (fun A_2 zz kk s12 => ?_)
  replace s1 := kt kk s1
  replace s3 := kt kk s3
  replace s4 := kt kk s4
  replace s11 := kt kk s11
  replace hz := zz
  clear kk zz A_1
  refine vcallP (want_none rfl) (ex_call rfl (by simp only [List.map_toArray, List.map_cons, List.map_nil, (ev s12 rfl), evc] <;> rfl) rfl) (rnumber_any N b l x.s w1 hR1) rfl hz (by decide) ?_
  rintro e w2 ⟨rfl, hR2, hu2⟩
  refine ⟨_, rfl, fun A_3 zz kk s13 => ?_⟩
  have B2 := B1.ub hu2 hqb
  have M2 := M1.upd hu2 (by omega)
  have OL2 := OL1.far hu2 (fun k hk => by omega)
  have OD2 := OD1.far hu2 (fun k hk => by omega)
  replace s1 := kt kk s1
  replace s3 := kt kk s3
  replace s4 := kt kk s4
  replace s11 := kt kk s11
  replace hz := zz
  clear kk zz s12 A_2
  refine vt (.pointer (some ⟨qm, 0, none⟩)) (ex_nil rfl (ev s11 rfl)) hz (fun A_4 zz kk s14 => ?_)
  replace s1 := kt kk s1
  replace s3 := kt kk s3
  replace s4 := kt kk s4
  replace s13 := kt kk s13
  replace hz := zz
  clear kk zz s11 A_3
  refine vt (.pointer (some ⟨qm, 1, none⟩)) (ex_fa rfl (ev s14 rfl) (MBox.faNode _ _)) hz (fun A_5 zz kk s15 => ?_)
  replace s1 := kt kk s1
  replace s3 := kt kk s3
  replace s4 := kt kk s4
  replace s13 := kt kk s13
  replace hz := zz
  clear kk zz s14 A_4
  refine vs (sets w2 qm 1 [.int .i64 (rI mxI l x.s : Int)]) (want_none rfl) (ex_st rfl (ev s15 rfl) (ev s13 rfl) (stInt _ (M2.cell 1 _ rfl) (M2.free 1))) rfl ?_
  have SP3 := M2.splice 1 [.int .i64 (rI mxI l x.s : Int)] { x.m with nd := (rI mxI l x.s : Int) } s_ t_ (by show _ + _ ≤ 18; simp) rfl
  obtain ⟨w3, hw3⟩ : ∃ y, y = sets w2 qm 1 [.int .i64 (rI mxI l x.s : Int)] := ⟨_, rfl⟩
  rw [← hw3] at SP3 ⊢
  clear hw3
  have M3 := SP3.1
  have hR3 := hR2.ub SP3.2 (fun k hk => by omega)
  have B3 := B2.ub SP3.2 (by omega)
  have OL3 := OL2.far SP3.2 (fun k hk => by omega)
  have OD3 := OD2.far SP3.2 (fun k hk => by omega)
  refine wpList_nil ?_
  go_wp2
  go_end0
  exact ⟨rfl, ⟨_, _, M3, OL3, OD3⟩, hR3, (U2.b (UB.of_below hb01)).trans ((U2.b hu2).trans (U2.q SP3.2))⟩
set_option maxRecDepth 100000 in
set_option maxHeartbeats 4000000 in
theorem rfield_1 (N b qm : Nat) (l : List Int) (x : Rst) (q : Int) (w : World) (hN : N ≤ qm) (hM : MS w qm x.m x.L x.D) (h : RD N w b l x.s) : Calls Tryz.prog 101 #[.agg #[.pointer (some ⟨b, 0, none⟩)], .pointer (some ⟨qm, 0, none⟩), .int .i64 1, .int .u8 q] w fun e w' => e = .returned (.tuple #[]) ∧ MS w' qm (rCol l x 1 (!decide (q = 15))).m (rCol l x 1 (!decide (q = 15))).L (rCol l x 1 (!decide (q = 15))).D ∧ RD N w' b l (rCol l x 1 (!decide (q = 15))).s ∧ U2 b qm w w' := by
  have hlt := h.lt
  obtain ⟨s_, t_, M0, OL0, OD0⟩ := hM
  have hqm := M0.lt
  have hqb : w.heap.size ≠ b := by omega
  go_enter Tryz.func101, Tryz.ntmps101
  go_upto_region 5 with fail
  obtain ⟨w1, hw1⟩ : ∃ w1, w1 = w.alloc (.cells #[.pointer (some ⟨b, 0, none⟩)] 157) := ⟨_, rfl⟩
  rw [← hw1]
  have hb01 : Below w.heap.size w w1 := by rw [hw1]; exact (Below.refl _ _).alloc (Nat.le_refl _) _
  have B1 : Bx w1 w.heap.size [.pointer (some ⟨b, 0, none⟩)] := by rw [hw1]; exact Bx.new w [.pointer (some ⟨b, 0, none⟩)] _
  have hR1 := h.later hb01
  have M1 := M0.bel hb01
  have OL1 := OL0.far (Upd.of_below (S := fun _ => False) hb01) (fun _ _ => id)
  have OD1 := OD0.far (Upd.of_below (S := fun _ => False) hb01) (fun _ _ => id)
  have hB1lt := B1.lt
  clear hw1
  refine wp_region_lit ?_
  refine vl_gen (fun T => T.size = 87 ∧ T[1]? = some (gw true (.pointer (some ⟨qm, 0, none⟩))) ∧ T[3]? = some (gw true (.int .u8 q)) ∧ T[4]? = some (gw true (.pointer (some ⟨w.heap.size, 0, none⟩)))) ⟨rfl, rfl, rfl, rfl⟩ (fun T0 ⟨hz, s1, s3, s4⟩ => ?_)
  refine vt _ (ex_move rfl (ev s1 rfl)) hz (fun A_1 zz kk s18 => ?_)
  replace s1 := kt kk s1
  replace s3 := kt kk s3
  replace s4 := kt kk s4
  replace hz := zz
  clear kk zz
  refine vt (.agg #[.pointer (some ⟨b, 0, none⟩)]) (ex_ld rfl (ev s4 rfl) (ldRd (B1.cell 0 _ rfl))) hz (fun A_2 zz kk s19 => ?_)
  replace s1 := kt kk s1
  replace s3 := kt kk s3
  replace s4 := kt kk s4
  replace s18 := kt kk s18
  replace hz := zz
  clear kk zz A_1
  refine vcallP (want_none rfl) (ex_call rfl (by simp only [List.map_toArray, List.map_cons, List.map_nil, (ev s19 rfl), evc] <;> rfl) rfl) (rnumber_any N b l x.s w1 hR1) rfl hz (by decide) ?_
  rintro e w2 ⟨rfl, hR2, hu2⟩
  refine ⟨_, rfl, fun A_3 zz kk s20 => ?_⟩
  have B2 := B1.ub hu2 hqb
  have M2 := M1.upd hu2 (by omega)
  have OL2 := OL1.far hu2 (fun k hk => by omega)
  have OD2 := OD1.far hu2 (fun k hk => by omega)
  replace s1 := kt kk s1
  replace s3 := kt kk s3
  replace s4 := kt kk s4
  replace s18 := kt kk s18
  replace hz := zz
  clear kk zz s19 A_2
  refine vt (.pointer (some ⟨qm, 0, none⟩)) (ex_nil rfl (ev s18 rfl)) hz (fun A_4 zz kk s21 => ?_)
  replace s1 := kt kk s1
  replace s3 := kt kk s3
  replace s4 := kt kk s4
  replace s20 := kt kk s20
  replace hz := zz
  clear kk zz s18 A_3
  refine vt (.pointer (some ⟨qm, 2, none⟩)) (ex_fa rfl (ev s21 rfl) (MBox.faView _ _)) hz (fun A_5 zz kk s22 => ?_)
  replace s1 := kt kk s1
  replace s3 := kt kk s3
  replace s4 := kt kk s4
  replace s20 := kt kk s20
  replace hz := zz
  clear kk zz s21 A_4
  refine vs (sets w2 qm 2 [.int .i64 (rI mxI l x.s : Int)]) (want_none rfl) (ex_st rfl (ev s22 rfl) (ev s20 rfl) (stInt _ (M2.cell 2 _ rfl) (M2.free 2))) rfl ?_
  have SP3 := M2.splice 2 [.int .i64 (rI mxI l x.s : Int)] { x.m with vw := (rI mxI l x.s : Int) } s_ t_ (by show _ + _ ≤ 18; simp) rfl
  obtain ⟨w3, hw3⟩ : ∃ y, y = sets w2 qm 2 [.int .i64 (rI mxI l x.s : Int)] := ⟨_, rfl⟩
  rw [← hw3] at SP3 ⊢
  clear hw3
  have M3 := SP3.1
  have hR3 := hR2.ub SP3.2 (fun k hk => by omega)
  have B3 := B2.ub SP3.2 (by omega)
  have OL3 := OL2.far SP3.2 (fun k hk => by omega)
  have OD3 := OD2.far SP3.2 (fun k hk => by omega)
  refine wpList_nil ?_
  go_wp2
  go_end0
  exact ⟨rfl, ⟨_, _, M3, OL3, OD3⟩, hR3, (U2.b (UB.of_below hb01)).trans ((U2.b hu2).trans (U2.q SP3.2))⟩
set_option maxRecDepth 100000 in
set_option maxHeartbeats 4000000 in
theorem rfield_2 (N b qm : Nat) (l : List Int) (x : Rst) (q : Int) (w : World) (hN : N ≤ qm) (hM : MS w qm x.m x.L x.D) (h : RD N w b l x.s) : Calls Tryz.prog 101 #[.agg #[.pointer (some ⟨b, 0, none⟩)], .pointer (some ⟨qm, 0, none⟩), .int .i64 2, .int .u8 q] w fun e w' => e = .returned (.tuple #[]) ∧ MS w' qm (rCol l x 2 (!decide (q = 15))).m (rCol l x 2 (!decide (q = 15))).L (rCol l x 2 (!decide (q = 15))).D ∧ RD N w' b l (rCol l x 2 (!decide (q = 15))).s ∧ U2 b qm w w' := by
  have hlt := h.lt
  obtain ⟨s_, t_, M0, OL0, OD0⟩ := hM
  have hqm := M0.lt
  have hqb : w.heap.size ≠ b := by omega
  go_enter Tryz.func101, Tryz.ntmps101
  go_upto_region 7 with fail
  obtain ⟨w1, hw1⟩ : ∃ w1, w1 = w.alloc (.cells #[.pointer (some ⟨b, 0, none⟩)] 157) := ⟨_, rfl⟩
  rw [← hw1]
  have hb01 : Below w.heap.size w w1 := by rw [hw1]; exact (Below.refl _ _).alloc (Nat.le_refl _) _
  have B1 : Bx w1 w.heap.size [.pointer (some ⟨b, 0, none⟩)] := by rw [hw1]; exact Bx.new w [.pointer (some ⟨b, 0, none⟩)] _
  have hR1 := h.later hb01
  have M1 := M0.bel hb01
  have OL1 := OL0.far (Upd.of_below (S := fun _ => False) hb01) (fun _ _ => id)
  have OD1 := OD0.far (Upd.of_below (S := fun _ => False) hb01) (fun _ _ => id)
  have hB1lt := B1.lt
  clear hw1
  refine wp_region_lit ?_
  refine vl_gen (fun T => T.size = 87 ∧ T[1]? = some (gw true (.pointer (some ⟨qm, 0, none⟩))) ∧ T[3]? = some (gw true (.int .u8 q)) ∧ T[4]? = some (gw true (.pointer (some ⟨w.heap.size, 0, none⟩)))) ⟨rfl, rfl, rfl, rfl⟩ (fun T0 ⟨hz, s1, s3, s4⟩ => ?_)
  refine vt _ (ex_move rfl (ev s1 rfl)) hz (fun A_1 zz kk s25 => ?_)
  replace s1 := kt kk s1
  replace s3 := kt kk s3
  replace s4 := kt kk s4
  replace hz := zz
  clear kk zz
  refine vt (.agg #[.pointer (some ⟨b, 0, none⟩)]) (ex_ld rfl (ev s4 rfl) (ldRd (B1.cell 0 _ rfl))) hz (fun A_2 zz kk s26 => ?_)
  replace s1 := kt kk s1
  replace s3 := kt kk s3
  replace s4 := kt kk s4
  replace s25 := kt kk s25
  replace hz := zz
  clear kk zz A_1
  refine vcallP (want_none rfl) (ex_call rfl (by simp only [List.map_toArray, List.map_cons, List.map_nil, (ev s26 rfl), evc] <;> rfl) rfl) (rnumber_any N b l x.s w1 hR1) rfl hz (by decide) ?_
  rintro e w2 ⟨rfl, hR2, hu2⟩
  refine ⟨_, rfl, fun A_3 zz kk s27 => ?_⟩
  have B2 := B1.ub hu2 hqb
  have M2 := M1.upd hu2 (by omega)
  have OL2 := OL1.far hu2 (fun k hk => by omega)
  have OD2 := OD1.far hu2 (fun k hk => by omega)
  replace s1 := kt kk s1
  replace s3 := kt kk s3
  replace s4 := kt kk s4
  replace s25 := kt kk s25
  replace hz := zz
  clear kk zz s26 A_2
  refine vt (.pointer (some ⟨qm, 0, none⟩)) (ex_nil rfl (ev s25 rfl)) hz (fun A_4 zz kk s28 => ?_)
  replace s1 := kt kk s1
  replace s3 := kt kk s3
  replace s4 := kt kk s4
  replace s27 := kt kk s27
  replace hz := zz
  clear kk zz s25 A_3
  refine vt (.pointer (some ⟨qm, 13, none⟩)) (ex_fa rfl (ev s28 rfl) (MBox.faLast _ _)) hz (fun A_5 zz kk s29 => ?_)
  replace s1 := kt kk s1
  replace s3 := kt kk s3
  replace s4 := kt kk s4
  replace s27 := kt kk s27
  replace hz := zz
  clear kk zz s28 A_4
  refine vs (sets w2 qm 13 [.int .i64 (rI mxI l x.s : Int)]) (want_none rfl) (ex_st rfl (ev s29 rfl) (ev s27 rfl) (stInt _ (M2.cell 13 _ rfl) (M2.free 13))) rfl ?_
  have SP3 := M2.splice 13 [.int .i64 (rI mxI l x.s : Int)] { x.m with ls := (rI mxI l x.s : Int) } s_ t_ (by show _ + _ ≤ 18; simp) rfl
  obtain ⟨w3, hw3⟩ : ∃ y, y = sets w2 qm 13 [.int .i64 (rI mxI l x.s : Int)] := ⟨_, rfl⟩
  rw [← hw3] at SP3 ⊢
  clear hw3
  have M3 := SP3.1
  have hR3 := hR2.ub SP3.2 (fun k hk => by omega)
  have B3 := B2.ub SP3.2 (by omega)
  have OL3 := OL2.far SP3.2 (fun k hk => by omega)
  have OD3 := OD2.far SP3.2 (fun k hk => by omega)
  refine wpList_nil ?_
  go_wp2
  go_end0
  exact ⟨rfl, ⟨_, _, M3, OL3, OD3⟩, hR3, (U2.b (UB.of_below hb01)).trans ((U2.b hu2).trans (U2.q SP3.2))⟩
set_option maxRecDepth 100000 in
set_option maxHeartbeats 4000000 in
theorem rfield_3 (N b qm : Nat) (l : List Int) (x : Rst) (q : Int) (w : World) (hN : N ≤ qm) (hM : MS w qm x.m x.L x.D) (h : RD N w b l x.s) : Calls Tryz.prog 101 #[.agg #[.pointer (some ⟨b, 0, none⟩)], .pointer (some ⟨qm, 0, none⟩), .int .i64 3, .int .u8 q] w fun e w' => e = .returned (.tuple #[]) ∧ MS w' qm (rCol l x 3 (!decide (q = 15))).m (rCol l x 3 (!decide (q = 15))).L (rCol l x 3 (!decide (q = 15))).D ∧ RD N w' b l (rCol l x 3 (!decide (q = 15))).s ∧ U2 b qm w w' := by
  have hlt := h.lt
  obtain ⟨s_, t_, M0, OL0, OD0⟩ := hM
  have hqm := M0.lt
  have hqb : w.heap.size ≠ b := by omega
  go_enter Tryz.func101, Tryz.ntmps101
  go_upto_region 9 with fail
  obtain ⟨w1, hw1⟩ : ∃ w1, w1 = w.alloc (.cells #[.pointer (some ⟨b, 0, none⟩)] 157) := ⟨_, rfl⟩
  rw [← hw1]
  have hb01 : Below w.heap.size w w1 := by rw [hw1]; exact (Below.refl _ _).alloc (Nat.le_refl _) _
  have B1 : Bx w1 w.heap.size [.pointer (some ⟨b, 0, none⟩)] := by rw [hw1]; exact Bx.new w [.pointer (some ⟨b, 0, none⟩)] _
  have hR1 := h.later hb01
  have M1 := M0.bel hb01
  have OL1 := OL0.far (Upd.of_below (S := fun _ => False) hb01) (fun _ _ => id)
  have OD1 := OD0.far (Upd.of_below (S := fun _ => False) hb01) (fun _ _ => id)
  have hB1lt := B1.lt
  clear hw1
  refine wp_region_lit ?_
  refine vl_gen (fun T => T.size = 87 ∧ T[1]? = some (gw true (.pointer (some ⟨qm, 0, none⟩))) ∧ T[3]? = some (gw true (.int .u8 q)) ∧ T[4]? = some (gw true (.pointer (some ⟨w.heap.size, 0, none⟩)))) ⟨rfl, rfl, rfl, rfl⟩ (fun T0 ⟨hz, s1, s3, s4⟩ => ?_)
  refine vt _ (ex_move rfl (ev s1 rfl)) hz (fun A_1 zz kk s32 => ?_)
  replace s1 := kt kk s1
  replace s3 := kt kk s3
  replace s4 := kt kk s4
  replace hz := zz
  clear kk zz
  refine vt (.agg #[.pointer (some ⟨b, 0, none⟩)]) (ex_ld rfl (ev s4 rfl) (ldRd (B1.cell 0 _ rfl))) hz (fun A_2 zz kk s33 => ?_)
  replace s1 := kt kk s1
  replace s3 := kt kk s3
  replace s4 := kt kk s4
  replace s32 := kt kk s32
  replace hz := zz
  clear kk zz A_1
  refine vcallP (want_none rfl) (ex_call rfl (by simp only [List.map_toArray, List.map_cons, List.map_nil, (ev s33 rfl), evc] <;> rfl) rfl) (rnumber_any N b l x.s w1 hR1) rfl hz (by decide) ?_
  rintro e w2 ⟨rfl, hR2, hu2⟩
  refine ⟨_, rfl, fun A_3 zz kk s34 => ?_⟩
  have B2 := B1.ub hu2 hqb
  have M2 := M1.upd hu2 (by omega)
  have OL2 := OL1.far hu2 (fun k hk => by omega)
  have OD2 := OD1.far hu2 (fun k hk => by omega)
  replace s1 := kt kk s1
  replace s3 := kt kk s3
  replace s4 := kt kk s4
  replace s32 := kt kk s32
  replace hz := zz
  clear kk zz s33 A_2
  refine vt (.pointer (some ⟨qm, 0, none⟩)) (ex_nil rfl (ev s32 rfl)) hz (fun A_4 zz kk s35 => ?_)
  replace s1 := kt kk s1
  replace s3 := kt kk s3
  replace s4 := kt kk s4
  replace s34 := kt kk s34
  replace hz := zz
  clear kk zz s32 A_3
  refine vt (.pointer (some ⟨qm, 11, none⟩)) (ex_fa rfl (ev s35 rfl) (MBox.faPlace _ _)) hz (fun A_5 zz kk s36 => ?_)
  replace s1 := kt kk s1
  replace s3 := kt kk s3
  replace s4 := kt kk s4
  replace s34 := kt kk s34
  replace hz := zz
  clear kk zz s35 A_4
  refine vs (sets w2 qm 11 [.int .i64 (rI mxI l x.s : Int)]) (want_none rfl) (ex_st rfl (ev s36 rfl) (ev s34 rfl) (stInt _ (M2.cell 11 _ rfl) (M2.free 11))) rfl ?_
  have SP3 := M2.splice 11 [.int .i64 (rI mxI l x.s : Int)] { x.m with p := (rI mxI l x.s : Int) } s_ t_ (by show _ + _ ≤ 18; simp) rfl
  obtain ⟨w3, hw3⟩ : ∃ y, y = sets w2 qm 11 [.int .i64 (rI mxI l x.s : Int)] := ⟨_, rfl⟩
  rw [← hw3] at SP3 ⊢
  clear hw3
  have M3 := SP3.1
  have hR3 := hR2.ub SP3.2 (fun k hk => by omega)
  have B3 := B2.ub SP3.2 (by omega)
  have OL3 := OL2.far SP3.2 (fun k hk => by omega)
  have OD3 := OD2.far SP3.2 (fun k hk => by omega)
  refine wpList_nil ?_
  go_wp2
  go_end0
  exact ⟨rfl, ⟨_, _, M3, OL3, OD3⟩, hR3, (U2.b (UB.of_below hb01)).trans ((U2.b hu2).trans (U2.q SP3.2))⟩
set_option maxRecDepth 100000 in
set_option maxHeartbeats 4000000 in
theorem rfield_4 (N b qm : Nat) (l : List Int) (x : Rst) (q : Int) (w : World) (hN : N ≤ qm) (hM : MS w qm x.m x.L x.D) (h : RD N w b l x.s) : Calls Tryz.prog 101 #[.agg #[.pointer (some ⟨b, 0, none⟩)], .pointer (some ⟨qm, 0, none⟩), .int .i64 4, .int .u8 q] w fun e w' => e = .returned (.tuple #[]) ∧ MS w' qm (rCol l x 4 (!decide (q = 15))).m (rCol l x 4 (!decide (q = 15))).L (rCol l x 4 (!decide (q = 15))).D ∧ RD N w' b l (rCol l x 4 (!decide (q = 15))).s ∧ U2 b qm w w' := by
  have hlt := h.lt
  obtain ⟨s_, t_, M0, OL0, OD0⟩ := hM
  have hqm := M0.lt
  have hqb : w.heap.size ≠ b := by omega
  go_enter Tryz.func101, Tryz.ntmps101
  go_upto_region 11 with fail
  obtain ⟨w1, hw1⟩ : ∃ w1, w1 = w.alloc (.cells #[.pointer (some ⟨b, 0, none⟩)] 157) := ⟨_, rfl⟩
  rw [← hw1]
  have hb01 : Below w.heap.size w w1 := by rw [hw1]; exact (Below.refl _ _).alloc (Nat.le_refl _) _
  have B1 : Bx w1 w.heap.size [.pointer (some ⟨b, 0, none⟩)] := by rw [hw1]; exact Bx.new w [.pointer (some ⟨b, 0, none⟩)] _
  have hR1 := h.later hb01
  have M1 := M0.bel hb01
  have OL1 := OL0.far (Upd.of_below (S := fun _ => False) hb01) (fun _ _ => id)
  have OD1 := OD0.far (Upd.of_below (S := fun _ => False) hb01) (fun _ _ => id)
  have hB1lt := B1.lt
  clear hw1
  refine wp_region_lit ?_
  refine vl_gen (fun T => T.size = 87 ∧ T[1]? = some (gw true (.pointer (some ⟨qm, 0, none⟩))) ∧ T[3]? = some (gw true (.int .u8 q)) ∧ T[4]? = some (gw true (.pointer (some ⟨w.heap.size, 0, none⟩)))) ⟨rfl, rfl, rfl, rfl⟩ (fun T0 ⟨hz, s1, s3, s4⟩ => ?_)
  refine vt _ (ex_move rfl (ev s1 rfl)) hz (fun A_1 zz kk s39 => ?_)
  replace s1 := kt kk s1
  replace s3 := kt kk s3
  replace s4 := kt kk s4
  replace hz := zz
  clear kk zz
  refine vt (.agg #[.pointer (some ⟨b, 0, none⟩)]) (ex_ld rfl (ev s4 rfl) (ldRd (B1.cell 0 _ rfl))) hz (fun A_2 zz kk s40 => ?_)
  replace s1 := kt kk s1
  replace s3 := kt kk s3
  replace s4 := kt kk s4
  replace s39 := kt kk s39
  replace hz := zz
  clear kk zz A_1
  refine vcallP (want_none rfl) (ex_call rfl (by simp only [List.map_toArray, List.map_cons, List.map_nil, (ev s40 rfl), evc] <;> rfl) rfl) (rnumber_any N b l x.s w1 hR1) rfl hz (by decide) ?_
  rintro e w2 ⟨rfl, hR2, hu2⟩
  refine ⟨_, rfl, fun A_3 zz kk s41 => ?_⟩
  have B2 := B1.ub hu2 hqb
  have M2 := M1.upd hu2 (by omega)
  have OL2 := OL1.far hu2 (fun k hk => by omega)
  have OD2 := OD1.far hu2 (fun k hk => by omega)
  replace s1 := kt kk s1
  replace s3 := kt kk s3
  replace s4 := kt kk s4
  replace s39 := kt kk s39
  replace hz := zz
  clear kk zz s40 A_2
  refine vt (.pointer (some ⟨qm, 0, none⟩)) (ex_nil rfl (ev s39 rfl)) hz (fun A_4 zz kk s42 => ?_)
  replace s1 := kt kk s1
  replace s3 := kt kk s3
  replace s4 := kt kk s4
  replace s41 := kt kk s41
  replace hz := zz
  clear kk zz s39 A_3
  refine vt (.pointer (some ⟨qm, 12, none⟩)) (ex_fa rfl (ev s42 rfl) (MBox.faCommit _ _)) hz (fun A_5 zz kk s43 => ?_)
  replace s1 := kt kk s1
  replace s3 := kt kk s3
  replace s4 := kt kk s4
  replace s41 := kt kk s41
  replace hz := zz
  clear kk zz s42 A_4
  refine vs (sets w2 qm 12 [.int .i64 (rI mxI l x.s : Int)]) (want_none rfl) (ex_st rfl (ev s43 rfl) (ev s41 rfl) (stInt _ (M2.cell 12 _ rfl) (M2.free 12))) rfl ?_
  have SP3 := M2.splice 12 [.int .i64 (rI mxI l x.s : Int)] { x.m with cm := (rI mxI l x.s : Int) } s_ t_ (by show _ + _ ≤ 18; simp) rfl
  obtain ⟨w3, hw3⟩ : ∃ y, y = sets w2 qm 12 [.int .i64 (rI mxI l x.s : Int)] := ⟨_, rfl⟩
  rw [← hw3] at SP3 ⊢
  clear hw3
  have M3 := SP3.1
  have hR3 := hR2.ub SP3.2 (fun k hk => by omega)
  have B3 := B2.ub SP3.2 (by omega)
  have OL3 := OL2.far SP3.2 (fun k hk => by omega)
  have OD3 := OD2.far SP3.2 (fun k hk => by omega)
  refine wpList_nil ?_
  go_wp2
  go_end0
  exact ⟨rfl, ⟨_, _, M3, OL3, OD3⟩, hR3, (U2.b (UB.of_below hb01)).trans ((U2.b hu2).trans (U2.q SP3.2))⟩
set_option maxRecDepth 100000 in
set_option maxHeartbeats 4000000 in
theorem rfield_5 (N b qm : Nat) (l : List Int) (x : Rst) (q : Int) (w : World) (hN : N ≤ qm) (hM : MS w qm x.m x.L x.D) (h : RD N w b l x.s) : Calls Tryz.prog 101 #[.agg #[.pointer (some ⟨b, 0, none⟩)], .pointer (some ⟨qm, 0, none⟩), .int .i64 5, .int .u8 q] w fun e w' => e = .returned (.tuple #[]) ∧ MS w' qm (rCol l x 5 (!decide (q = 15))).m (rCol l x 5 (!decide (q = 15))).L (rCol l x 5 (!decide (q = 15))).D ∧ RD N w' b l (rCol l x 5 (!decide (q = 15))).s ∧ U2 b qm w w' := by
  have hlt := h.lt
  obtain ⟨s_, t_, M0, OL0, OD0⟩ := hM
  have hqm := M0.lt
  have hqb : w.heap.size ≠ b := by omega
  go_enter Tryz.func101, Tryz.ntmps101
  go_upto_region 13 with fail
  obtain ⟨w1, hw1⟩ : ∃ w1, w1 = w.alloc (.cells #[.pointer (some ⟨b, 0, none⟩)] 157) := ⟨_, rfl⟩
  rw [← hw1]
  have hb01 : Below w.heap.size w w1 := by rw [hw1]; exact (Below.refl _ _).alloc (Nat.le_refl _) _
  have B1 : Bx w1 w.heap.size [.pointer (some ⟨b, 0, none⟩)] := by rw [hw1]; exact Bx.new w [.pointer (some ⟨b, 0, none⟩)] _
  have hR1 := h.later hb01
  have M1 := M0.bel hb01
  have OL1 := OL0.far (Upd.of_below (S := fun _ => False) hb01) (fun _ _ => id)
  have OD1 := OD0.far (Upd.of_below (S := fun _ => False) hb01) (fun _ _ => id)
  have hB1lt := B1.lt
  clear hw1
  refine wp_region_lit ?_
  refine vl_gen (fun T => T.size = 87 ∧ T[1]? = some (gw true (.pointer (some ⟨qm, 0, none⟩))) ∧ T[3]? = some (gw true (.int .u8 q)) ∧ T[4]? = some (gw true (.pointer (some ⟨w.heap.size, 0, none⟩)))) ⟨rfl, rfl, rfl, rfl⟩ (fun T0 ⟨hz, s1, s3, s4⟩ => ?_)
  refine vt _ (ex_move rfl (ev s1 rfl)) hz (fun A_1 zz kk s46 => ?_)
  replace s1 := kt kk s1
  replace s3 := kt kk s3
  replace s4 := kt kk s4
  replace hz := zz
  clear kk zz
  refine vt (.agg #[.pointer (some ⟨b, 0, none⟩)]) (ex_ld rfl (ev s4 rfl) (ldRd (B1.cell 0 _ rfl))) hz (fun A_2 zz kk s47 => ?_)
  replace s1 := kt kk s1
  replace s3 := kt kk s3
  replace s4 := kt kk s4
  replace s46 := kt kk s46
  replace hz := zz
  clear kk zz A_1
  refine vcallP (want_none rfl) (ex_call rfl (by simp only [List.map_toArray, List.map_cons, List.map_nil, (ev s47 rfl), evc] <;> rfl) rfl) (rdraw_any N b l x.s w1 hR1) rfl hz (by decide) ?_
  rintro e w2 ⟨rfl, hR2, hu2⟩
  refine ⟨_, rfl, fun A_3 zz kk s48 => ?_⟩
  have B2 := B1.ub hu2 hqb
  have M2 := M1.upd hu2 (by omega)
  have OL2 := OL1.far hu2 (fun k hk => by omega)
  have OD2 := OD1.far hu2 (fun k hk => by omega)
  replace s1 := kt kk s1
  replace s3 := kt kk s3
  replace s4 := kt kk s4
  replace s46 := kt kk s46
  replace hz := zz
  clear kk zz s47 A_2
  refine vt (.pointer (some ⟨qm, 0, none⟩)) (ex_nil rfl (ev s46 rfl)) hz (fun A_4 zz kk s49 => ?_)
  replace s1 := kt kk s1
  replace s3 := kt kk s3
  replace s4 := kt kk s4
  replace s48 := kt kk s48
  replace hz := zz
  clear kk zz s46 A_3
  refine vt (.pointer (some ⟨qm, 14, none⟩)) (ex_fa rfl (ev s49 rfl) (MBox.faDraw _ _)) hz (fun A_5 zz kk s50 => ?_)
  replace s1 := kt kk s1
  replace s3 := kt kk s3
  replace s4 := kt kk s4
  replace s48 := kt kk s48
  replace hz := zz
  clear kk zz s49 A_4
  refine vs (sets w2 qm 14 [.int .u64 (rD l x.s).1, .int .u64 (rD l x.s).2]) (want_none rfl) (ex_st rfl (ev s50 rfl) (ev s48 rfl) (M2.stAt 33 14 [.int .u64 (rD l x.s).1, .int .u64 (rD l x.s).2] (by show 14 + 2 ≤ 18; omega) (by kernel_rfl) (by kernel_rfl))) rfl ?_
  have SP3 := M2.splice 14 [.int .u64 (rD l x.s).1, .int .u64 (rD l x.s).2] { x.m with d := rD l x.s } s_ t_ (by show _ + _ ≤ 18; simp) rfl
  obtain ⟨w3, hw3⟩ : ∃ y, y = sets w2 qm 14 [.int .u64 (rD l x.s).1, .int .u64 (rD l x.s).2] := ⟨_, rfl⟩
  rw [← hw3] at SP3 ⊢
  clear hw3
  have M3 := SP3.1
  have hR3 := hR2.ub SP3.2 (fun k hk => by omega)
  have B3 := B2.ub SP3.2 (by omega)
  have OL3 := OL2.far SP3.2 (fun k hk => by omega)
  have OD3 := OD2.far SP3.2 (fun k hk => by omega)
  refine wpList_nil ?_
  go_wp2
  go_end0
  exact ⟨rfl, ⟨_, _, M3, OL3, OD3⟩, hR3, (U2.b (UB.of_below hb01)).trans ((U2.b hu2).trans (U2.q SP3.2))⟩
set_option maxRecDepth 100000 in
set_option maxHeartbeats 4000000 in
theorem rfield_6 (N b qm : Nat) (l : List Int) (x : Rst) (q : Int) (w : World) (hN : N ≤ qm) (hM : MS w qm x.m x.L x.D) (h : RD N w b l x.s) : Calls Tryz.prog 101 #[.agg #[.pointer (some ⟨b, 0, none⟩)], .pointer (some ⟨qm, 0, none⟩), .int .i64 6, .int .u8 q] w fun e w' => e = .returned (.tuple #[]) ∧ MS w' qm (rCol l x 6 (!decide (q = 15))).m (rCol l x 6 (!decide (q = 15))).L (rCol l x 6 (!decide (q = 15))).D ∧ RD N w' b l (rCol l x 6 (!decide (q = 15))).s ∧ U2 b qm w w' := by
  have hlt := h.lt
  obtain ⟨s_, t_, M0, OL0, OD0⟩ := hM
  have hqm := M0.lt
  have hqb : w.heap.size ≠ b := by omega
  go_enter Tryz.func101, Tryz.ntmps101
  go_upto_region 15 with fail
  obtain ⟨w1, hw1⟩ : ∃ w1, w1 = w.alloc (.cells #[.pointer (some ⟨b, 0, none⟩)] 157) := ⟨_, rfl⟩
  rw [← hw1]
  have hb01 : Below w.heap.size w w1 := by rw [hw1]; exact (Below.refl _ _).alloc (Nat.le_refl _) _
  have B1 : Bx w1 w.heap.size [.pointer (some ⟨b, 0, none⟩)] := by rw [hw1]; exact Bx.new w [.pointer (some ⟨b, 0, none⟩)] _
  have hR1 := h.later hb01
  have M1 := M0.bel hb01
  have OL1 := OL0.far (Upd.of_below (S := fun _ => False) hb01) (fun _ _ => id)
  have OD1 := OD0.far (Upd.of_below (S := fun _ => False) hb01) (fun _ _ => id)
  have hB1lt := B1.lt
  clear hw1
  refine wp_region_lit ?_
  refine vl_gen (fun T => T.size = 87 ∧ T[1]? = some (gw true (.pointer (some ⟨qm, 0, none⟩))) ∧ T[3]? = some (gw true (.int .u8 q)) ∧ T[4]? = some (gw true (.pointer (some ⟨w.heap.size, 0, none⟩)))) ⟨rfl, rfl, rfl, rfl⟩ (fun T0 ⟨hz, s1, s3, s4⟩ => ?_)
  refine vt _ (ex_move rfl (ev s1 rfl)) hz (fun A_1 zz kk s53 => ?_)
  replace s1 := kt kk s1
  replace s3 := kt kk s3
  replace s4 := kt kk s4
  replace hz := zz
  clear kk zz
  refine vt (.agg #[.pointer (some ⟨b, 0, none⟩)]) (ex_ld rfl (ev s4 rfl) (ldRd (B1.cell 0 _ rfl))) hz (fun A_2 zz kk s54 => ?_)
  replace s1 := kt kk s1
  replace s3 := kt kk s3
  replace s4 := kt kk s4
  replace s53 := kt kk s53
  replace hz := zz
  clear kk zz A_1
  refine vcallP (want_none rfl) (ex_call rfl (by simp only [List.map_toArray, List.map_cons, List.map_nil, (ev s54 rfl), evc] <;> rfl) rfl) (rname_any N b l x.s w1 hR1) rfl hz (by decide) ?_
  rintro e w2 ⟨rfl, hR2, hu2⟩
  refine ⟨_, rfl, fun A_3 zz kk s55 => ?_⟩
  have B2 := B1.ub hu2 hqb
  have M2 := M1.upd hu2 (by omega)
  have OL2 := OL1.far hu2 (fun k hk => by omega)
  have OD2 := OD1.far hu2 (fun k hk => by omega)
  replace s1 := kt kk s1
  replace s3 := kt kk s3
  replace s4 := kt kk s4
  replace s53 := kt kk s53
  replace hz := zz
  clear kk zz s54 A_2
  refine vt (.pointer (some ⟨qm, 0, none⟩)) (ex_nil rfl (ev s53 rfl)) hz (fun A_4 zz kk s56 => ?_)
  replace s1 := kt kk s1
  replace s3 := kt kk s3
  replace s4 := kt kk s4
  replace s55 := kt kk s55
  replace hz := zz
  clear kk zz s53 A_3
  refine vt (.pointer (some ⟨qm, 3, none⟩)) (ex_fa rfl (ev s56 rfl) (MBox.faEntry _ _)) hz (fun A_5 zz kk s57 => ?_)
  replace s1 := kt kk s1
  replace s3 := kt kk s3
  replace s4 := kt kk s4
  replace s55 := kt kk s55
  replace hz := zz
  clear kk zz s56 A_4
  refine vs (sets w2 qm 3 [.int .i64 (rI mxI l x.s : Int), .int .i64 (rI mxI l (sI mxI l x.s) : Int), .int .i64 0, .int .i64 0, .string ⟨#[]⟩]) (want_none rfl) (ex_st rfl (ev s57 rfl) (ev s55 rfl) (M2.stAt 28 3 [.int .i64 (rI mxI l x.s : Int), .int .i64 (rI mxI l (sI mxI l x.s) : Int), .int .i64 0, .int .i64 0, .string ⟨#[]⟩] (by show 3 + 5 ≤ 18; omega) (by kernel_rfl) (by kernel_rfl))) rfl ?_
  have SP3 := M2.splice 3 [.int .i64 (rI mxI l x.s : Int), .int .i64 (rI mxI l (sI mxI l x.s) : Int), .int .i64 0, .int .i64 0, .string ⟨#[]⟩] { x.m with e := ⟨(rI mxI l x.s : Int), (rI mxI l (sI mxI l x.s) : Int), ⟨0, 0, ⟨#[]⟩⟩⟩ } s_ t_ (by show _ + _ ≤ 18; simp) rfl
  obtain ⟨w3, hw3⟩ : ∃ y, y = sets w2 qm 3 [.int .i64 (rI mxI l x.s : Int), .int .i64 (rI mxI l (sI mxI l x.s) : Int), .int .i64 0, .int .i64 0, .string ⟨#[]⟩] := ⟨_, rfl⟩
  rw [← hw3] at SP3 ⊢
  clear hw3
  have M3 := SP3.1
  have hR3 := hR2.ub SP3.2 (fun k hk => by omega)
  have B3 := B2.ub SP3.2 (by omega)
  have OL3 := OL2.far SP3.2 (fun k hk => by omega)
  have OD3 := OD2.far SP3.2 (fun k hk => by omega)
  refine wpList_nil ?_
  go_upto_region 16 with fail
  refine wp_region_lit ?_
  refine vt _ (ex_move rfl (ev s3 rfl)) hz (fun C_1 zz kk s58 => ?_)
  replace s1 := kt kk s1
  replace s3 := kt kk s3
  replace s4 := kt kk s4
  replace hz := zz
  clear kk zz s55 s57
  refine vt (.bool (!decide (q = 15))) (ex_bin rfl (ev s58 rfl) rfl (neqU8 _ _ _ _ _)) hz (fun C_2 zz kk s59 => ?_)
  replace s1 := kt kk s1
  replace s3 := kt kk s3
  replace s4 := kt kk s4
  replace hz := zz
  clear kk zz s58 C_1
  refine wpList_nil ?_
  go_upto_region 17 with fail
  cases e6 : !decide (q = 15)
  · refine wp_cond_false ((ev s59 rfl).trans (congrArg Value.bool e6)) ?_
    go_wp2
    go_end0
    try rw [e6]
    exact ⟨rfl, ⟨_, _, M3, OL3, OD3⟩, hR3, (U2.b (UB.of_below hb01)).trans ((U2.b hu2).trans (U2.q SP3.2))⟩
  refine wp_cond_true ((ev s59 rfl).trans (congrArg Value.bool e6)) ?_
  go_upto_region 17 with fail
  refine wp_region_lit ?_
  refine vt _ (ex_move rfl (ev s1 rfl)) hz (fun D_1 zz kk s60 => ?_)
  replace s1 := kt kk s1
  replace s4 := kt kk s4
  replace hz := zz
  clear kk zz s3 s59
  refine vt (.agg #[.pointer (some ⟨b, 0, none⟩)]) (ex_ld rfl (ev s4 rfl) (ldRd (B3.cell 0 _ rfl))) hz (fun D_2 zz kk s61 => ?_)
  replace s1 := kt kk s1
  replace s60 := kt kk s60
  replace hz := zz
  clear kk zz s4 D_1
  refine vcallP (want_none rfl) (ex_call rfl (by simp only [List.map_toArray, List.map_cons, List.map_nil, (ev s61 rfl), evc] <;> rfl) rfl) (rop_any N b l (s2 l x.s) w3 hR3) rfl hz (by decide) ?_
  rintro e w4 ⟨rfl, hR4, hu4⟩
  refine ⟨_, rfl, fun D_3 zz kk s62 => ?_⟩
  have B4 := B3.ub hu4 hqb
  have M4 := M3.upd hu4 (by omega)
  have OL4 := OL3.far hu4 (fun k hk => by omega)
  have OD4 := OD3.far hu4 (fun k hk => by omega)
  replace s1 := kt kk s1
  replace s60 := kt kk s60
  replace hz := zz
  clear kk zz s61 D_2
  refine vt (.pointer (some ⟨qm, 0, none⟩)) (ex_nil rfl (ev s60 rfl)) hz (fun D_4 zz kk s63 => ?_)
  replace s1 := kt kk s1
  replace s62 := kt kk s62
  replace hz := zz
  clear kk zz s60 D_3
  refine vt (.pointer (some ⟨qm, 3, none⟩)) (ex_fa rfl (ev s63 rfl) (MBox.faEntry _ _)) hz (fun D_5 zz kk s64 => ?_)
  replace s1 := kt kk s1
  replace s62 := kt kk s62
  replace hz := zz
  clear kk zz s63 D_4
  refine vt (.pointer (some ⟨qm, 5, none⟩)) (ex_fa rfl (ev s64 rfl) (MBox.faOp _ _)) hz (fun D_6 zz kk s65 => ?_)
  replace s1 := kt kk s1
  replace s62 := kt kk s62
  replace hz := zz
  clear kk zz s64 D_5
  refine vs (sets w4 qm 5 [.int .i64 (rO l (s2 l x.s)).k, .int .i64 (rO l (s2 l x.s)).s, .string (rO l (s2 l x.s)).v]) (want_none rfl) (ex_st rfl (ev s65 rfl) (ev s62 rfl) (M4.stAt 26 5 [.int .i64 (rO l (s2 l x.s)).k, .int .i64 (rO l (s2 l x.s)).s, .string (rO l (s2 l x.s)).v] (by show 5 + 3 ≤ 18; omega) (by kernel_rfl) (by kernel_rfl))) rfl ?_
  have SP5 := M4.splice 5 [.int .i64 (rO l (s2 l x.s)).k, .int .i64 (rO l (s2 l x.s)).s, .string (rO l (s2 l x.s)).v] { x.m with e := rE l x.s } s_ t_ (by show _ + _ ≤ 18; simp) rfl
  obtain ⟨w5, hw5⟩ : ∃ y, y = sets w4 qm 5 [.int .i64 (rO l (s2 l x.s)).k, .int .i64 (rO l (s2 l x.s)).s, .string (rO l (s2 l x.s)).v] := ⟨_, rfl⟩
  rw [← hw5] at SP5 ⊢
  clear hw5
  have M5 := SP5.1
  have hR5 := hR4.ub SP5.2 (fun k hk => by omega)
  have B5 := B4.ub SP5.2 (by omega)
  have OL5 := OL4.far SP5.2 (fun k hk => by omega)
  have OD5 := OD4.far SP5.2 (fun k hk => by omega)
  refine wpList_nil ?_
  go_wp2
  go_end0
  try rw [e6]
  exact ⟨rfl, ⟨_, _, M5, OL5, OD5⟩, hR5, (U2.b (UB.of_below hb01)).trans (((U2.b hu2).trans (U2.q SP3.2)).trans ((U2.b hu4).trans (U2.q SP5.2)))⟩
set_option maxRecDepth 100000 in
set_option maxHeartbeats 4000000 in
theorem rfield_7 (N b qm : Nat) (l : List Int) (x : Rst) (q : Int) (w : World) (hN : N ≤ qm) (hM : MS w qm x.m x.L x.D) (h : RD N w b l x.s) : Calls Tryz.prog 101 #[.agg #[.pointer (some ⟨b, 0, none⟩)], .pointer (some ⟨qm, 0, none⟩), .int .i64 7, .int .u8 q] w fun e w' => e = .returned (.tuple #[]) ∧ MS w' qm (rCol l x 7 (!decide (q = 15))).m (rCol l x 7 (!decide (q = 15))).L (rCol l x 7 (!decide (q = 15))).D ∧ RD N w' b l (rCol l x 7 (!decide (q = 15))).s ∧ U2 b qm w w' := by
  have hlt := h.lt
  obtain ⟨s_, t_, M0, OL0, OD0⟩ := hM
  have hqm := M0.lt
  have hqb : w.heap.size ≠ b := by omega
  go_enter Tryz.func101, Tryz.ntmps101
  go_upto_region 19 with fail
  obtain ⟨w1, hw1⟩ : ∃ w1, w1 = w.alloc (.cells #[.pointer (some ⟨b, 0, none⟩)] 157) := ⟨_, rfl⟩
  rw [← hw1]
  have hb01 : Below w.heap.size w w1 := by rw [hw1]; exact (Below.refl _ _).alloc (Nat.le_refl _) _
  have B1 : Bx w1 w.heap.size [.pointer (some ⟨b, 0, none⟩)] := by rw [hw1]; exact Bx.new w [.pointer (some ⟨b, 0, none⟩)] _
  have hR1 := h.later hb01
  have M1 := M0.bel hb01
  have OL1 := OL0.far (Upd.of_below (S := fun _ => False) hb01) (fun _ _ => id)
  have OD1 := OD0.far (Upd.of_below (S := fun _ => False) hb01) (fun _ _ => id)
  have hB1lt := B1.lt
  clear hw1
  refine wp_region_lit ?_
  refine vl_gen (fun T => T.size = 87 ∧ T[1]? = some (gw true (.pointer (some ⟨qm, 0, none⟩))) ∧ T[3]? = some (gw true (.int .u8 q)) ∧ T[4]? = some (gw true (.pointer (some ⟨w.heap.size, 0, none⟩)))) ⟨rfl, rfl, rfl, rfl⟩ (fun T0 ⟨hz, s1, s3, s4⟩ => ?_)
  refine vt _ (ex_move rfl (ev s1 rfl)) hz (fun A_1 zz kk s68 => ?_)
  replace s1 := kt kk s1
  replace s3 := kt kk s3
  replace s4 := kt kk s4
  replace hz := zz
  clear kk zz
  refine vt (.agg #[.pointer (some ⟨b, 0, none⟩)]) (ex_ld rfl (ev s4 rfl) (ldRd (B1.cell 0 _ rfl))) hz (fun A_2 zz kk s69 => ?_)
  replace s1 := kt kk s1
  replace s3 := kt kk s3
  replace s4 := kt kk s4
  replace s68 := kt kk s68
  replace hz := zz
  clear kk zz A_1
  refine vcallP (want_none rfl) (ex_call rfl (by simp only [List.map_toArray, List.map_cons, List.map_nil, (ev s69 rfl), evc] <;> rfl) rfl) (rresult_any N b l x.s w1 hR1) rfl hz (by decide) ?_
  rintro e w2 ⟨rfl, hR2, hu2⟩
  refine ⟨_, rfl, fun A_3 zz kk s70 => ?_⟩
  have B2 := B1.ub hu2 hqb
  have M2 := M1.upd hu2 (by omega)
  have OL2 := OL1.far hu2 (fun k hk => by omega)
  have OD2 := OD1.far hu2 (fun k hk => by omega)
  replace s1 := kt kk s1
  replace s3 := kt kk s3
  replace s4 := kt kk s4
  replace s68 := kt kk s68
  replace hz := zz
  clear kk zz s69 A_2
  refine vt (.pointer (some ⟨qm, 0, none⟩)) (ex_nil rfl (ev s68 rfl)) hz (fun A_4 zz kk s71 => ?_)
  replace s1 := kt kk s1
  replace s3 := kt kk s3
  replace s4 := kt kk s4
  replace s70 := kt kk s70
  replace hz := zz
  clear kk zz s68 A_3
  refine vt (.pointer (some ⟨qm, 8, none⟩)) (ex_fa rfl (ev s71 rfl) (MBox.faResult _ _)) hz (fun A_5 zz kk s72 => ?_)
  replace s1 := kt kk s1
  replace s3 := kt kk s3
  replace s4 := kt kk s4
  replace s70 := kt kk s70
  replace hz := zz
  clear kk zz s71 A_4
  refine vs (sets w2 qm 8 [.int .i64 (rO l x.s).k, .int .i64 (rO l x.s).s, .string (rO l x.s).v]) (want_none rfl) (ex_st rfl (ev s72 rfl) (ev s70 rfl) (M2.stAt 30 8 [.int .i64 (rO l x.s).k, .int .i64 (rO l x.s).s, .string (rO l x.s).v] (by show 8 + 3 ≤ 18; omega) (by kernel_rfl) (by kernel_rfl))) rfl ?_
  have SP3 := M2.splice 8 [.int .i64 (rO l x.s).k, .int .i64 (rO l x.s).s, .string (rO l x.s).v] { x.m with r := ((rO l x.s).k, (rO l x.s).s, (rO l x.s).v) } s_ t_ (by show _ + _ ≤ 18; simp) rfl
  obtain ⟨w3, hw3⟩ : ∃ y, y = sets w2 qm 8 [.int .i64 (rO l x.s).k, .int .i64 (rO l x.s).s, .string (rO l x.s).v] := ⟨_, rfl⟩
  rw [← hw3] at SP3 ⊢
  clear hw3
  have M3 := SP3.1
  have hR3 := hR2.ub SP3.2 (fun k hk => by omega)
  have B3 := B2.ub SP3.2 (by omega)
  have OL3 := OL2.far SP3.2 (fun k hk => by omega)
  have OD3 := OD2.far SP3.2 (fun k hk => by omega)
  refine wpList_nil ?_
  go_wp2
  go_end0
  exact ⟨rfl, ⟨_, _, M3, OL3, OD3⟩, hR3, (U2.b (UB.of_below hb01)).trans ((U2.b hu2).trans (U2.q SP3.2))⟩
set_option maxRecDepth 100000 in
set_option maxHeartbeats 4000000 in
theorem rfield_8 (N b qm : Nat) (l : List Int) (x : Rst) (q : Int) (w : World) (hN : N ≤ qm) (hM : MS w qm x.m x.L x.D) (h : RD N w b l x.s) : Calls Tryz.prog 101 #[.agg #[.pointer (some ⟨b, 0, none⟩)], .pointer (some ⟨qm, 0, none⟩), .int .i64 8, .int .u8 q] w fun e w' => e = .returned (.tuple #[]) ∧ MS w' qm (rCol l x 8 (!decide (q = 15))).m (rCol l x 8 (!decide (q = 15))).L (rCol l x 8 (!decide (q = 15))).D ∧ RD N w' b l (rCol l x 8 (!decide (q = 15))).s ∧ U2 b qm w w' := by
  have hlt := h.lt
  obtain ⟨s_, t_, M0, OL0, OD0⟩ := hM
  have hqm := M0.lt
  have hqb : w.heap.size ≠ b := by omega
  go_enter Tryz.func101, Tryz.ntmps101
  go_upto_region 21 with fail
  obtain ⟨w1, hw1⟩ : ∃ w1, w1 = w.alloc (.cells #[.pointer (some ⟨b, 0, none⟩)] 157) := ⟨_, rfl⟩
  rw [← hw1]
  have hb01 : Below w.heap.size w w1 := by rw [hw1]; exact (Below.refl _ _).alloc (Nat.le_refl _) _
  have B1 : Bx w1 w.heap.size [.pointer (some ⟨b, 0, none⟩)] := by rw [hw1]; exact Bx.new w [.pointer (some ⟨b, 0, none⟩)] _
  have hR1 := h.later hb01
  have M1 := M0.bel hb01
  have OL1 := OL0.far (Upd.of_below (S := fun _ => False) hb01) (fun _ _ => id)
  have OD1 := OD0.far (Upd.of_below (S := fun _ => False) hb01) (fun _ _ => id)
  have hB1lt := B1.lt
  clear hw1
  refine wp_region_lit ?_
  refine vl_gen (fun T => T.size = 87 ∧ T[1]? = some (gw true (.pointer (some ⟨qm, 0, none⟩))) ∧ T[3]? = some (gw true (.int .u8 q)) ∧ T[4]? = some (gw true (.pointer (some ⟨w.heap.size, 0, none⟩)))) ⟨rfl, rfl, rfl, rfl⟩ (fun T0 ⟨hz, s1, s3, s4⟩ => ?_)
  refine vt _ (ex_move rfl (ev s1 rfl)) hz (fun A_1 zz kk s75 => ?_)
  replace s1 := kt kk s1
  replace s3 := kt kk s3
  replace s4 := kt kk s4
  replace hz := zz
  clear kk zz
  refine vt (.agg #[.pointer (some ⟨b, 0, none⟩)]) (ex_ld rfl (ev s4 rfl) (ldRd (B1.cell 0 _ rfl))) hz (fun A_2 zz kk s76 => ?_)
  replace s1 := kt kk s1
  replace s3 := kt kk s3
  replace s4 := kt kk s4
  replace s75 := kt kk s75
  replace hz := zz
  clear kk zz A_1
  refine vcallP (want_none rfl) (ex_call rfl (by simp only [List.map_toArray, List.map_cons, List.map_nil, (ev s76 rfl), evc] <;> rfl) rfl) (rlog_any N b l x.s w1 hR1) rfl hz (by decide) ?_
  rintro e w2 ⟨v2, rfl, O2, hR2, hu2⟩; obtain ⟨av, cv_, rfl, _⟩ := O2.form
  refine ⟨_, rfl, fun A_3 zz kk s77 => ?_⟩
  have B2 := B1.ub hu2 hqb
  have M2 := M1.upd hu2 (by omega)
  have OL2 := OL1.far hu2 (fun k hk => by omega)
  have OD2 := OD1.far hu2 (fun k hk => by omega)
  replace s1 := kt kk s1
  replace s3 := kt kk s3
  replace s4 := kt kk s4
  replace s75 := kt kk s75
  replace hz := zz
  clear kk zz s76 A_2
  refine vt (.pointer (some ⟨qm, 0, none⟩)) (ex_nil rfl (ev s75 rfl)) hz (fun A_4 zz kk s78 => ?_)
  replace s1 := kt kk s1
  replace s3 := kt kk s3
  replace s4 := kt kk s4
  replace s77 := kt kk s77
  replace hz := zz
  clear kk zz s75 A_3
  refine vt (.pointer (some ⟨qm, 16, none⟩)) (ex_fa rfl (ev s78 rfl) (MBox.faLog _ _)) hz (fun A_5 zz kk s79 => ?_)
  replace s1 := kt kk s1
  replace s3 := kt kk s3
  replace s4 := kt kk s4
  replace s77 := kt kk s77
  replace hz := zz
  clear kk zz s78 A_4
  refine vs (sets w2 qm 16 [.slice av (esL l (sI 256 l x.s) (rI 256 l x.s)).length cv_]) (want_none rfl) (ex_st rfl (ev s79 rfl) (ev s77 rfl) (stSlE _ _ _ (M2.cell 16 _ rfl) (M2.free 16))) rfl ?_
  have SP3 := M2.splice 16 [.slice av (esL l (sI 256 l x.s) (rI 256 l x.s)).length cv_] x.m (.slice av (esL l (sI 256 l x.s) (rI 256 l x.s)).length cv_) t_ (by show _ + _ ≤ 18; simp) rfl
  obtain ⟨w3, hw3⟩ : ∃ y, y = sets w2 qm 16 [.slice av (esL l (sI 256 l x.s) (rI 256 l x.s)).length cv_] := ⟨_, rfl⟩
  rw [← hw3] at SP3 ⊢
  clear hw3
  have M3 := SP3.1
  have hR3 := hR2.ub SP3.2 (fun k hk => by omega)
  have B3 := B2.ub SP3.2 (by omega)
  have OL3 := OL2.far SP3.2 (fun k hk => by omega)
  have OD3 := OD2.far SP3.2 (fun k hk => by omega)
  refine wpList_nil ?_
  go_wp2
  go_end0
  exact ⟨rfl, ⟨_, _, M3, ((O2.low (show qm + 1 ≤ w1.heap.size by omega)).far SP3.2 (fun k hk => by omega)), OD3⟩, hR3, (U2.b (UB.of_below hb01)).trans ((U2.b hu2).trans (U2.q SP3.2))⟩
set_option maxRecDepth 100000 in
set_option maxHeartbeats 4000000 in
theorem rfield_9 (N b qm : Nat) (l : List Int) (x : Rst) (q : Int) (w : World) (hN : N ≤ qm) (hM : MS w qm x.m x.L x.D) (h : RD N w b l x.s) : Calls Tryz.prog 101 #[.agg #[.pointer (some ⟨b, 0, none⟩)], .pointer (some ⟨qm, 0, none⟩), .int .i64 9, .int .u8 q] w fun e w' => e = .returned (.tuple #[]) ∧ MS w' qm (rCol l x 9 (!decide (q = 15))).m (rCol l x 9 (!decide (q = 15))).L (rCol l x 9 (!decide (q = 15))).D ∧ RD N w' b l (rCol l x 9 (!decide (q = 15))).s ∧ U2 b qm w w' := by
  have hlt := h.lt
  obtain ⟨s_, t_, M0, OL0, OD0⟩ := hM
  have hqm := M0.lt
  have hqb : w.heap.size ≠ b := by omega
  go_enter Tryz.func101, Tryz.ntmps101
  go_upto_region 23 with fail
  obtain ⟨w1, hw1⟩ : ∃ w1, w1 = w.alloc (.cells #[.pointer (some ⟨b, 0, none⟩)] 157) := ⟨_, rfl⟩
  rw [← hw1]
  have hb01 : Below w.heap.size w w1 := by rw [hw1]; exact (Below.refl _ _).alloc (Nat.le_refl _) _
  have B1 : Bx w1 w.heap.size [.pointer (some ⟨b, 0, none⟩)] := by rw [hw1]; exact Bx.new w [.pointer (some ⟨b, 0, none⟩)] _
  have hR1 := h.later hb01
  have M1 := M0.bel hb01
  have OL1 := OL0.far (Upd.of_below (S := fun _ => False) hb01) (fun _ _ => id)
  have OD1 := OD0.far (Upd.of_below (S := fun _ => False) hb01) (fun _ _ => id)
  have hB1lt := B1.lt
  clear hw1
  refine wp_region_lit ?_
  refine vl_gen (fun T => T.size = 87 ∧ T[1]? = some (gw true (.pointer (some ⟨qm, 0, none⟩))) ∧ T[3]? = some (gw true (.int .u8 q)) ∧ T[4]? = some (gw true (.pointer (some ⟨w.heap.size, 0, none⟩)))) ⟨rfl, rfl, rfl, rfl⟩ (fun T0 ⟨hz, s1, s3, s4⟩ => ?_)
  refine vt _ (ex_move rfl (ev s1 rfl)) hz (fun A_1 zz kk s82 => ?_)
  replace s1 := kt kk s1
  replace s3 := kt kk s3
  replace s4 := kt kk s4
  replace hz := zz
  clear kk zz
  refine vt (.agg #[.pointer (some ⟨b, 0, none⟩)]) (ex_ld rfl (ev s4 rfl) (ldRd (B1.cell 0 _ rfl))) hz (fun A_2 zz kk s83 => ?_)
  replace s1 := kt kk s1
  replace s3 := kt kk s3
  replace s4 := kt kk s4
  replace s82 := kt kk s82
  replace hz := zz
  clear kk zz A_1
  refine vcallP (want_none rfl) (ex_call rfl (by simp only [List.map_toArray, List.map_cons, List.map_nil, (ev s83 rfl), evc] <;> rfl) rfl) (rvector_any N b l x.s w1 hR1) rfl hz (by decide) ?_
  rintro e w2 ⟨v2, rfl, O2, hR2, hu2⟩; obtain ⟨av, cv_, rfl, _⟩ := O2.form
  refine ⟨_, rfl, fun A_3 zz kk s84 => ?_⟩
  have B2 := B1.ub hu2 hqb
  have M2 := M1.upd hu2 (by omega)
  have OL2 := OL1.far hu2 (fun k hk => by omega)
  have OD2 := OD1.far hu2 (fun k hk => by omega)
  replace s1 := kt kk s1
  replace s3 := kt kk s3
  replace s4 := kt kk s4
  replace s82 := kt kk s82
  replace hz := zz
  clear kk zz s83 A_2
  refine vt (.pointer (some ⟨qm, 0, none⟩)) (ex_nil rfl (ev s82 rfl)) hz (fun A_4 zz kk s85 => ?_)
  replace s1 := kt kk s1
  replace s3 := kt kk s3
  replace s4 := kt kk s4
  replace s84 := kt kk s84
  replace hz := zz
  clear kk zz s82 A_3
  refine vt (.pointer (some ⟨qm, 17, none⟩)) (ex_fa rfl (ev s85 rfl) (MBox.faVector _ _)) hz (fun A_5 zz kk s86 => ?_)
  replace s1 := kt kk s1
  replace s3 := kt kk s3
  replace s4 := kt kk s4
  replace s84 := kt kk s84
  replace hz := zz
  clear kk zz s85 A_4
  refine vs (sets w2 qm 17 [.slice av (dsL l (sI 7 l x.s) (rI 7 l x.s)).length cv_]) (want_none rfl) (ex_st rfl (ev s86 rfl) (ev s84 rfl) (stSlD _ _ _ (M2.cell 17 _ rfl) (M2.free 17))) rfl ?_
  have SP3 := M2.splice 17 [.slice av (dsL l (sI 7 l x.s) (rI 7 l x.s)).length cv_] x.m s_ (.slice av (dsL l (sI 7 l x.s) (rI 7 l x.s)).length cv_) (by show _ + _ ≤ 18; simp) rfl
  obtain ⟨w3, hw3⟩ : ∃ y, y = sets w2 qm 17 [.slice av (dsL l (sI 7 l x.s) (rI 7 l x.s)).length cv_] := ⟨_, rfl⟩
  rw [← hw3] at SP3 ⊢
  clear hw3
  have M3 := SP3.1
  have hR3 := hR2.ub SP3.2 (fun k hk => by omega)
  have B3 := B2.ub SP3.2 (by omega)
  have OL3 := OL2.far SP3.2 (fun k hk => by omega)
  have OD3 := OD2.far SP3.2 (fun k hk => by omega)
  refine wpList_nil ?_
  go_wp2
  go_end0
  exact ⟨rfl, ⟨_, _, M3, OL3, ((O2.low (show qm + 1 ≤ w1.heap.size by omega)).far SP3.2 (fun k hk => by omega))⟩, hR3, (U2.b (UB.of_below hb01)).trans ((U2.b hu2).trans (U2.q SP3.2))⟩
theorem rfield_all (N b qm : Nat) (l : List Int) (x : Rst) (j : Nat) (hj : j < 10) (q : Int) (w : World) (hN : N ≤ qm) (hM : MS w qm x.m x.L x.D) (h : RD N w b l x.s) : Calls Tryz.prog 101 #[.agg #[.pointer (some ⟨b, 0, none⟩)], .pointer (some ⟨qm, 0, none⟩), .int .i64 (j : Int), .int .u8 q] w fun e w' => e = .returned (.tuple #[]) ∧ MS w' qm (rCol l x j (!decide (q = 15))).m (rCol l x j (!decide (q = 15))).L (rCol l x j (!decide (q = 15))).D ∧ RD N w' b l (rCol l x j (!decide (q = 15))).s ∧ U2 b qm w w' := by
  match j, hj with
  | 0, _ => exact rfield_0 N b qm l x q w hN hM h
  | 1, _ => exact rfield_1 N b qm l x q w hN hM h
  | 2, _ => exact rfield_2 N b qm l x q w hN hM h
  | 3, _ => exact rfield_3 N b qm l x q w hN hM h
  | 4, _ => exact rfield_4 N b qm l x q w hN hM h
  | 5, _ => exact rfield_5 N b qm l x q w hN hM h
  | 6, _ => exact rfield_6 N b qm l x q w hN hM h
  | 7, _ => exact rfield_7 N b qm l x q w hN hM h
  | 8, _ => exact rfield_8 N b qm l x q w hN hM h
  | 9, _ => exact rfield_9 N b qm l x q w hN hM h
  | (k + 10), hk => exact absurd hk (by omega)
def zG : Mg := ⟨0, 0, 0, ⟨0, 0, ⟨0, 0, ⟨#[]⟩⟩⟩, (0, 0, ⟨#[]⟩), 0, 0, 0, (0, 0)⟩
def nilS : Value := .slice none 0 0
def rCols (l : List Int) (k : Nat) (x : Rst) : Nat → Rst
  | 0 => x
  | j + 1 => if tabA k j = 0 then rCols l k x j else rCol l (rCols l k x j) j (!decide ((tabA k j : Int) = 15))
def rdM (l : List Int) : Rst × Int :=
  if ¬ (sI mxI l (0, 0)).2 = 0 then (⟨zG, [], [], (0, 0)⟩, (sI mxI l (0, 0)).2)
  else if kdB (rI mxI l (0, 0) : Int) = false then (⟨zG, [], [], (0, 0)⟩, 70)
  else let x := rCols l (rI mxI l (0, 0)) ⟨{ zG with k := (rI mxI l (0, 0) : Int) }, [], [], sI mxI l (0, 0)⟩ 10
    (x, Wi.endErr l.length x.s.1 x.s.2)
theorem first_at (l : List Int) : (sI mxI l (0, 0)).1 = 0 ↔ ¬ (sI mxI l (0, 0)).2 = 0 := by
  show 0 + Wi.sel 0 (Wi.tcSize mxI (l.drop 0)) = 0 ↔ ¬ Wi.selE 0 (Wi.tcErr mxI (l.drop 0)) = 0
  rw [Wi.sel_ok, Wi.selE_ok, Nat.zero_add]
  unfold Wi.tcSize
  constructor
  · intro h h0
    rw [if_pos h0] at h
    unfold Wi.tcErr at h0
    have ht : Wi.tnErr (l.drop 0) = 0 := by
      split at h0
      · omega
      · split at h0
        · omega
        · rename_i h2; omega
    unfold Wi.tnSize at h
    rw [if_pos ht] at h
    omega
  · intro h
    rw [if_neg h]
theorem rd_At (N b : Nat) (l : List Int) (s : Nat × Int) (w : World) (h : RD N w b l s) : Calls Tryz.prog 99 #[.pointer (some ⟨b, 0, none⟩)] w fun e w' => e = .returned (.int .i64 (s.1 : Int)) ∧ w' = w := by
  obtain ⟨a, n, c, h, _⟩ := h
  exact Wi.rd_at b a n c l s.1 s.2 w h
theorem rd_End (N b : Nat) (l : List Int) (s : Nat × Int) (w : World) (h : RD N w b l s) : Calls Tryz.prog 100 #[.pointer (some ⟨b, 0, none⟩)] w fun e w' => e = .returned (.int .i64 (Wi.endErr l.length s.1 s.2)) ∧ Below w.heap.size w w' := by
  obtain ⟨a, n, c, h, _⟩ := h
  have := Wi.rd_end b a n c l s.1 s.2 w h
  rw [← h.hs.len] at this
  refine this.mono ?_
  rintro e w' ⟨rfl, k, rfl⟩
  exact ⟨rfl, belN (Below.refl _ _) k⟩
theorem alM (w : World) : (Instr.alloc 38 true (.tuple #[])).run Tryz.prog w = .ok (.pointer (some ⟨w.heap.size, 0, none⟩)) (w.alloc (.cells (zG.cs nilS nilS).toArray 38)) := by
  go_simp
  first | done | rfl
theorem bdM (k : Int) (w : World) : (Instr.build 38 #[(0, .int .i64 k)]).run Tryz.prog w = .ok (({ zG with k := k } : Mg).val nilS nilS) w := by
  go_simp
  first | done | rfl
theorem bdM0 (w : World) : (Instr.build 38 #[]).run Tryz.prog w = .ok (zG.val nilS nilS) w := by
  go_simp
  first | done | rfl
theorem bdRd (b : Nat) (w : World) : (Instr.build 157 #[(0, .pointer (some ⟨b, 0, none⟩))]).run Tryz.prog w = .ok (.agg #[.pointer (some ⟨b, 0, none⟩)]) w := by
  go_simp
theorem alRd (w : World) : (Instr.alloc 157 true (.tuple #[])).run Tryz.prog w = .ok (.pointer (some ⟨w.heap.size, 0, none⟩)) (w.alloc (.cells #[.pointer none] 157)) := by
  go_simp
theorem bodyPost_msg {fn : Func} {i u : Tmp} {q : Nat} {m : Mg} {s t V : Value} {T : Array Value} {w : World} {R : Ending → World → Prop} (h : fn.results = #[.cell i 38, .tmp u]) (hq : T[i]? = some (gw true (.pointer (some ⟨q, 0, none⟩)))) (hu : T[u]? = some (gw true V)) (hb : MBox w q m s t) (hR : R (.returned (.tuple #[m.val s t, V])) w) : bodyPost Tryz.prog fn R .ret ⟨T, []⟩ w := by
  refine bodyPost_ret (v := .tuple #[m.val s t, V]) ?_ rfl hR
  have hl := run_loadVar_mid (P := Tryz.prog) w q 0 38 (m.cs s t) _ (fun j v hv => by rw [Nat.zero_add]; exact hb.cell j v hv) Tryz.underlying38 rfl (by kernel_rfl)
  have hq' : T.getD i undef = .pointer (some ⟨q, 0, none⟩) := getD_of hq
  have hu' : T.getD u undef = V := getD_of hu
  rw [results_cell_tmp h]
  simp only [hq', hu', asAddr, Sem.run_pure, Result.andThen_ok, hl]
  rfl
theorem vh_store {ops : Array Oper} {o : Oper} {T : Array Value} {df : List Deferred} {w : World} {Q : Exit → Act → World → Prop} {S : World → Prop} {fuel : Nat} {listed : Array Bool} (i : Nat) (w' : World) (hi : ops[i]? = some o) (hr : Region.ready .any ops listed = [i])
    (hw : Region.wanted o (yielded ops T) = true) (he : (execOp (⟨T, df⟩ : Act).eval o).run Tryz.prog w = .ok .skip w') (hd : o.dst = none) (hS : S w')
    (hk : VH ops Q S fuel (listed.setIfInBounds i true) ⟨T, df⟩ w') : VH ops Q S (fuel + 1) listed ⟨T, df⟩ w := by
  refine ⟨wpAnyH_all hr (by simp) (fun j hj => ?_)⟩
  obtain rfl : j = i := by simpa using hj
  unfold wpOp
  rw [hi]
  simp only [hw, if_true]
  refine .inl ?_
  unfold Oper.wp
  rw [he, Oper.upon_skip]
  refine ⟨hS, ?_⟩
  rw [hd]
  exact hk.out
theorem MBox.new0 (w : World) : MBox (w.alloc (.cells (zG.cs nilS nilS).toArray 38)) w.heap.size zG nilS nilS := MBox.new w zG nilS nilS
theorem stM {w : World} {q : Nat} {m : Mg} {s t : Value} (h : MBox w q m s t) (m' : Mg) (s' t' : Value) (h1 : s'.oneCell' = true) (h2 : t'.oneCell' = true) : (Instr.storeAt 38 (.pointer (some ⟨q, 0, none⟩)) (m'.val s' t')).run Tryz.prog w = .ok () (sets w q 0 (m'.cs s' t')) := run_storeM h m' s' t' h1 h2
theorem MBox.putU {w : World} {q : Nat} {m : Mg} {s t : Value} (h : MBox w q m s t) (m' : Mg) (s' t' : Value) : MBox (sets w q 0 (m'.cs s' t')) q m' s' t' ∧ UB q w (sets w q 0 (m'.cs s' t')) := ⟨h.put m' s' t', upd_sets (S := fun b => b = q) (b := q) rfl _ _ _ (Upd.refl _ _)⟩
theorem eqlKd (x y : Operand) (a b : Int) (w : World) : (do eqGuard .eql 3 x y (.int .i64 a) (.int .i64 b); binOp .eql 3 (.int .i64 a) (.int .i64 b) : Sem Value).run Tryz.prog w = .ok (.bool (decide (a = b))) w := eqlC x y a b w
theorem rCols_none {l : List Int} {k j : Nat} {x : Rst} (h : tabA k j = 0) : rCols l k x (j + 1) = rCols l k x j := by
  show (if _ then _ else _) = _
  rw [if_pos h]
theorem rCols_some {l : List Int} {k j : Nat} {x : Rst} (h : ¬ tabA k j = 0) : rCols l k x (j + 1) = rCol l (rCols l k x j) j (!decide ((tabA k j : Int) = 15)) := by
  show (if _ then _ else _) = _
  rw [if_neg h]
theorem cell_lt {w : World} {x : Addr} {v : Value} (h : w.cell? (x.add 0) = some v) : x.block < w.heap.size := by
  by_cases hx : x.block < w.heap.size
  · exact hx
  · exfalso
    have e : (x.add 0).block = x.block := rfl
    have hn : w.heap[(x.add 0).block]? = none := by rw [e]; exact Array.getElem?_eq_none (by omega)
    unfold World.cell? at h
    rw [hn] at h
    cases h
theorem RD.new {w : World} {b : Nat} {a : Option Addr} {n c : Nat} {l : List Int} (h : Wi.RSt w b a n c l 0 0) : RD w.heap.size w b l (0, 0) := by
  refine ⟨a, n, c, h, h.lt, Nat.le_refl _, fun x hx hl => ?_⟩
  have hr := h.hs.row x hx 0 hl
  exact cell_lt hr
theorem Bx.ub2 {w w' : World} {q b p : Nat} {cs : List Value} (h : Bx w q cs) (u : U2 b p w w') (hq : q ≠ b) (hp : q ≠ p) : Bx w' q cs :=
  ⟨Nat.lt_of_lt_of_le h.lt u.size, fun i x hx => (u.cell (p := ⟨q, i, none⟩) h.lt (fun e => e.elim hq hp)).trans (h.cell i x hx), fun i => (u.frozen (p := ⟨q, i, none⟩) h.lt (fun e => e.elim hq hp)).trans (h.free i)⟩
theorem OwnY.later8 {α : Type} {Y : Lay α} {B : Nat} {w w' : World} {v : Value} {l : List α} (h : OwnY Y B w v l) (hb : Below w.heap.size w w') : OwnY Y B w' v l := h.far (Upd.of_below (S := fun _ => False) hb) (fun _ _ => id)
set_option maxRecDepth 100000 in
set_option maxHeartbeats 8000000 in
theorem readM_any (a : Option Addr) (n c : Nat) (l : List Int) (w : World) (hH : Wi.Hs w a n c l) (hm : n ≤ 140737488355328) (hT : Tab w) :
    Calls Tryz.prog 52 #[.slice a n c] w fun e w' => ∃ s t, e = .returned (.tuple #[(rdM l).1.m.val s t, .int .i64 (rdM l).2]) ∧ OwnY yE w.heap.size w' s (rdM l).1.L ∧ OwnY yD w.heap.size w' t (rdM l).1.D ∧ Below w.heap.size w w' := by
  go_enter Tryz.func52, Tryz.ntmps52
  go_upto_region 0 with fail
  refine wp_region_lit ?_
  refine vl_gen (fun T => T.size = 48 ∧ T[0]? = some (gw true (.slice a n c))) ⟨rfl, rfl⟩ (fun Z0 ⟨hz, s0⟩ => ?_)
  obtain ⟨w1, hw1⟩ : ∃ w1, w1 = w.alloc (.cells (zG.cs nilS nilS).toArray 38) := ⟨_, rfl⟩
  have hB01 : Below w.heap.size w w1 := by rw [hw1]; exact (Below.refl _ _).alloc (Nat.le_refl _) _
  have hs1 : w1.heap.size = w.heap.size + 1 := by rw [hw1]; simp
  have M1 : MBox w1 w.heap.size zG nilS nilS := by rw [hw1]; exact MBox.new0 w
  have hH1 := hH.later hB01
  refine vw (.pointer (some ⟨w.heap.size, 0, none⟩)) w1 (want_none rfl) (ex_al rfl (by rw [hw1]; exact alM _)) rfl hz (by decide) (fun Z1 zz kk s2x => ?_)
  replace s0 := kt kk s0
  clear kk hz hw1
  have hz := zz
  have s2 := s2x
  clear zz s2x
  refine vt (.int .i64 0) (ex_assign rfl rfl) hz (fun Z2 zz kk s3x => ?_)
  replace s0 := kt kk s0
  replace s2 := kt kk s2
  clear kk hz s3x
  have hz := zz
  clear zz
  refine wpList_nil ?_
  go_upto_region 1 with fail
  refine wp_region_lit ?_
  refine vt _ (ex_move rfl (ev s0 rfl)) hz (fun A1_1 zz kk s8 => ?_)
  replace s2 := kt kk s2
  replace hz := zz
  clear kk zz s0
  refine vcallP (want_none rfl) (ex_call rfl (by simp only [List.map_toArray, List.map_cons, List.map_nil, (ev s8 rfl), evc] <;> rfl) rfl) (Wi.newreader_any a n c l w1 hH1 hm) rfl hz (by decide) ?_
  rintro e w2 ⟨b, ar, cr, rfl, hRS, hbb, hb2⟩
  refine ⟨_, rfl, fun A1_2 zz kk s9 => ?_⟩
  have hR2 := RD.new hRS
  have hbl := hR2.lt
  obtain ⟨qr, hqr⟩ : ∃ qr, qr = w2.heap.size := ⟨_, rfl⟩
  obtain ⟨w3, hw3⟩ : ∃ y, y = w2.alloc (.cells #[.pointer none] 157) := ⟨_, rfl⟩
  have hb23 : Below w2.heap.size w2 w3 := by rw [hw3]; exact (Below.refl _ _).alloc (Nat.le_refl _) _
  have hs2 := hb2.size
  have hs3 : w3.heap.size = w2.heap.size + 1 := by rw [hw3]; simp
  have BR0 : Bx w3 qr [.pointer none] := by rw [hw3, hqr]; exact Bx.new w2 [.pointer none] _
  have hR3 := hR2.later hb23
  have M3 := (M1.bel hb2).bel hb23
  replace s2 := kt kk s2
  replace hz := zz
  clear kk zz s8 A1_1
  refine vt (.agg #[.pointer (some ⟨b, 0, none⟩)]) (ex_buildP rfl (by simp only [List.map_toArray, List.map_cons, List.map_nil, (ev s9 rfl)] <;> rfl) (bdRd _ _)) hz (fun A1_3 zz kk s10 => ?_)
  replace s2 := kt kk s2
  replace hz := zz
  clear kk zz s9 A1_2
  refine vw (.pointer (some ⟨qr, 0, none⟩)) w3 (want_none rfl) (ex_al rfl (by rw [hw3, hqr]; exact alRd _)) rfl hz (by decide) (fun A1_4 zz kk s4 => ?_)
  replace s2 := kt kk s2
  replace s10 := kt kk s10
  replace hz := zz
  clear kk zz A1_3
  refine vs (sets w3 qr 0 [.pointer (some ⟨b, 0, none⟩)]) (want_none rfl) (ex_st rfl (ev s4 rfl) (ev s10 rfl) (BR0.st 157 [.pointer (some ⟨b, 0, none⟩)] rfl (by kernel_rfl) (by kernel_rfl))) rfl ?_
  have SP4 := BR0.put [.pointer (some ⟨b, 0, none⟩)] (Nat.le_refl _)
  obtain ⟨w4, hw4⟩ : ∃ y, y = sets w3 qr 0 [.pointer (some ⟨b, 0, none⟩)] := ⟨_, rfl⟩
  rw [← hw4] at SP4 ⊢
  have BR4 := SP4.1
  have hR4 := hR3.ub SP4.2 (fun k hk => by omega)
  have M4 := M3.upd SP4.2 (by omega)
  have hs4 := SP4.2.size
  have hs4e : w4.heap.size = w3.heap.size := by rw [hw4, size_sets]
  clear hw4 hw3
  refine wpList_nil ?_
  go_upto_region 2 with fail
  refine wp_region_lit ?_
  refine vt (.agg #[.pointer (some ⟨b, 0, none⟩)]) (ex_ld rfl (ev s4 rfl) (ldRd (BR4.cell 0 _ rfl))) hz (fun A2_1 zz kk s11 => ?_)
  replace s2 := kt kk s2
  replace s4 := kt kk s4
  replace hz := zz
  clear kk zz s10
  refine vcallP (want_none rfl) (ex_call rfl (by simp only [List.map_toArray, List.map_cons, List.map_nil, (ev s11 rfl), evc] <;> rfl) rfl) (rnumber_any w2.heap.size b l (0, 0) w4 hR4) rfl hz (by decide) ?_
  rintro e w5 ⟨rfl, hR5, hu5⟩
  refine ⟨_, rfl, fun A2_2 zz kk s12 => ?_⟩
  have BR5 := BR4.ub hu5 (by omega)
  have M5 := M4.upd hu5 (by omega)
  have hs5 := hu5.size
  obtain ⟨qm, hqm⟩ : ∃ qm, qm = w5.heap.size := ⟨_, rfl⟩
  obtain ⟨w6, hw6⟩ : ∃ y, y = w5.alloc (.cells (zG.cs nilS nilS).toArray 38) := ⟨_, rfl⟩
  have hb56 : Below w5.heap.size w5 w6 := by rw [hw6]; exact (Below.refl _ _).alloc (Nat.le_refl _) _
  have hs6 : w6.heap.size = w5.heap.size + 1 := by rw [hw6]; simp
  have MM6 : MBox w6 qm zG nilS nilS := by rw [hw6, hqm]; exact MBox.new0 w5
  have BR6 := BR5.later hb56
  have hR6 := hR5.later hb56
  have M6 := M5.bel hb56
  replace s2 := kt kk s2
  replace s4 := kt kk s4
  replace hz := zz
  clear kk zz s11 A2_1
  refine vt (({ zG with k := ((rI mxI l (0, 0)) : Int) } : Mg).val nilS nilS) (ex_buildP rfl (by simp only [List.map_toArray, List.map_cons, List.map_nil, (ev s12 rfl)] <;> rfl) (bdM _ _)) hz (fun A2_3 zz kk s13 => ?_)
  replace s2 := kt kk s2
  replace s4 := kt kk s4
  replace hz := zz
  clear kk zz s12 A2_2
  refine vw (.pointer (some ⟨qm, 0, none⟩)) w6 (want_none rfl) (ex_al rfl (by rw [hw6, hqm]; exact alM _)) rfl hz (by decide) (fun A2_4 zz kk s5 => ?_)
  replace s2 := kt kk s2
  replace s4 := kt kk s4
  replace s13 := kt kk s13
  replace hz := zz
  clear kk zz A2_3
  refine vs (sets w6 qm 0 (({ zG with k := ((rI mxI l (0, 0)) : Int) } : Mg).cs nilS nilS)) (want_none rfl) (ex_st rfl (ev s5 rfl) (ev s13 rfl) (stM MM6 ({ zG with k := ((rI mxI l (0, 0)) : Int) } : Mg) nilS nilS rfl rfl)) rfl ?_
  have SP7 := MM6.putU ({ zG with k := ((rI mxI l (0, 0)) : Int) } : Mg) nilS nilS
  obtain ⟨w7, hw7⟩ : ∃ y, y = sets w6 qm 0 (({ zG with k := ((rI mxI l (0, 0)) : Int) } : Mg).cs nilS nilS) := ⟨_, rfl⟩
  rw [← hw7] at SP7 ⊢
  have MM7 := SP7.1
  have hs7 : w7.heap.size = w6.heap.size := by rw [hw7, size_sets]
  clear hw7 hw6
  have BR7 := BR6.ub SP7.2 (by omega)
  have hR7 := hR6.ub SP7.2 (fun k hk => by omega)
  have M7 := M6.upd SP7.2 (by omega)
  have hB7 : Below w.heap.size w w7 := hB01.trans ((hb2.mono (by omega)).trans ((hb23.mono (by omega)).trans ((SP4.2.below (by omega) (by omega)).trans ((hu5.below (by omega) (by omega)).trans ((hb56.mono (by omega)).trans (SP7.2.below (by omega) (by omega)))))))
  refine wpList_nil ?_
  go_upto_region 3 with fail
  refine wp_region_lit ?_
  refine vt (.pointer (some ⟨qr, 0, none⟩)) (ex_fa rfl (ev s4 rfl) (by go_simp)) hz (fun A3_1 zz kk s15 => ?_)
  replace s2 := kt kk s2
  replace s4 := kt kk s4
  replace s5 := kt kk s5
  replace hz := zz
  clear kk zz s13
  refine vt (.pointer (some ⟨b, 0, none⟩)) (ex_ld rfl (ev s15 rfl) (ldRp (BR7.cell 0 _ rfl))) hz (fun A3_2 zz kk s16 => ?_)
  replace s2 := kt kk s2
  replace s4 := kt kk s4
  replace s5 := kt kk s5
  replace hz := zz
  clear kk zz s15 A3_1
  refine vcallP (want_none rfl) (ex_call rfl (by simp only [List.map_toArray, List.map_cons, List.map_nil, (ev s16 rfl), evc] <;> rfl) rfl) (rd_At w2.heap.size b l (sI mxI l (0, 0)) w7 hR7) rfl hz (by decide) ?_
  rintro e w7_ ⟨rfl, hw77⟩; rw [hw77]; clear hw77 w7_
  refine ⟨_, rfl, fun A3_3 zz kk s17 => ?_⟩
  replace s2 := kt kk s2
  replace s4 := kt kk s4
  replace s5 := kt kk s5
  replace hz := zz
  clear kk zz s16 A3_2
  refine vt (.bool (decide (((sI mxI l (0, 0)).1 : Int) = 0))) (ex_bin rfl (ev s17 rfl) rfl (eqlKd _ _ _ _ _)) hz (fun A3_4 zz kk s18 => ?_)
  replace s2 := kt kk s2
  replace s4 := kt kk s4
  replace s5 := kt kk s5
  replace hz := zz
  clear kk zz s17 A3_3
  refine vt _ (ex_assign rfl (ev s18 rfl)) hz (fun A3_5 zz kk s14 => ?_)
  replace s2 := kt kk s2
  replace s4 := kt kk s4
  replace s5 := kt kk s5
  replace hz := zz
  clear kk zz s18 A3_4
  refine wpList_nil ?_
  go_upto_region 5 with fail
  cases e3 : decide (((sI mxI l (0, 0)).1 : Int) = 0)
  rotate_left
  · refine wp_cond_true ((ev s14 rfl).trans (congrArg Value.bool e3)) ?_
    have hE : ¬ (sI mxI l (0, 0)).2 = 0 := (first_at l).1 (by have := of_decide_eq_true e3; omega)
    have V : rdM l = (⟨zG, [], [], (0, 0)⟩, (sI mxI l (0, 0)).2) := by unfold rdM; rw [if_pos hE]
    clear s14 e3
    go_upto_region 4 with fail
    refine wp_region_lit ?_
    refine vt (zG.val nilS nilS) (ex_build rfl (bdM0 _)) hz (fun A4_1 zz kk s19 => ?_)
    replace s2 := kt kk s2
    replace s4 := kt kk s4
    replace hz := zz
    clear kk zz s5
    refine vt (.pointer (some ⟨qr, 0, none⟩)) (ex_fa rfl (ev s4 rfl) (by go_simp)) hz (fun A4_2 zz kk s20 => ?_)
    replace s2 := kt kk s2
    replace s19 := kt kk s19
    replace hz := zz
    clear kk zz s4 A4_1
    refine vt (.pointer (some ⟨b, 0, none⟩)) (ex_ld rfl (ev s20 rfl) (ldRp (BR7.cell 0 _ rfl))) hz (fun A4_3 zz kk s21 => ?_)
    replace s2 := kt kk s2
    replace s19 := kt kk s19
    replace hz := zz
    clear kk zz s20 A4_2
    refine vcallP (want_none rfl) (ex_call rfl (by simp only [List.map_toArray, List.map_cons, List.map_nil, (ev s21 rfl), evc] <;> rfl) rfl) (rd_End w2.heap.size b l (sI mxI l (0, 0)) w7 hR7) rfl hz (by decide) ?_
    rintro e w8 ⟨rfl, hb8⟩
    refine ⟨_, rfl, fun A4_4 zz kk s22 => ?_⟩
    have M8 := M7.bel hb8
    replace s2 := kt kk s2
    replace s19 := kt kk s19
    replace hz := zz
    clear kk zz s21 A4_3
    refine vs (sets w8 w.heap.size 0 (zG.cs nilS nilS)) (want_none rfl) (ex_st rfl (ev s2 rfl) (ev s19 rfl) (stM M8 zG nilS nilS rfl rfl)) rfl ?_
    have SP9 := M8.putU zG nilS nilS
    obtain ⟨w9, hw9⟩ : ∃ y, y = sets w8 w.heap.size 0 (zG.cs nilS nilS) := ⟨_, rfl⟩
    rw [← hw9] at SP9 ⊢
    clear hw9
    refine vt _ (ex_assign rfl (ev s22 rfl)) hz (fun A4_5 zz kk s3 => ?_)
    replace s2 := kt kk s2
    replace hz := zz
    clear kk zz s19 s22 A4_4
    refine wpList_nil ?_
    have hfin : Below w.heap.size w w9 := (hB7.trans (hb8.mono (by omega))).trans (SP9.2.below (by have := hb8.size; omega) (by omega))
    go_wp2
    refine bodyPost_msg rfl s2 s3 SP9.1 ?_
    rw [V]
    exact ⟨_, _, by show _ = Ending.returned (.tuple #[zG.val nilS nilS, .int .i64 (sI mxI l (0, 0)).2]); rw [Wi.endErr, if_neg hE], OwnY.nil _ _ _, OwnY.nil _ _ _, hfin⟩
  refine wp_cond_false ((ev s14 rfl).trans (congrArg Value.bool e3)) ?_
  have hE : (sI mxI l (0, 0)).2 = 0 := by have h1 := (first_at l).2; have h2 := of_decide_eq_false e3; exact Classical.byContradiction (fun hn => h2 (by rw [h1 hn]; rfl))
  clear s14 e3
  go_upto_region 5 with fail
  refine wp_region_lit ?_
  refine vt (.pointer (some ⟨qm, 0, none⟩)) (ex_fa rfl (ev s5 rfl) (MBox.faKind _ _)) hz (fun A5_1 zz kk s24 => ?_)
  replace s2 := kt kk s2
  replace s4 := kt kk s4
  replace s5 := kt kk s5
  replace hz := zz
  clear kk zz
  refine vt (.int .i64 ((rI mxI l (0, 0)) : Int)) (ex_ld rfl (ev s24 rfl) (MM7.ldKind)) hz (fun A5_2 zz kk s25 => ?_)
  replace s2 := kt kk s2
  replace s4 := kt kk s4
  replace s5 := kt kk s5
  replace hz := zz
  clear kk zz s24 A5_1
  refine vcallP (want_none rfl) (ex_call rfl (by simp only [List.map_toArray, List.map_cons, List.map_nil, (ev s25 rfl), evc] <;> rfl) rfl) (isKind_any ((rI mxI l (0, 0)) : Int) w7) rfl hz (by decide) ?_
  rintro e w7_ ⟨rfl, hw77⟩; rw [hw77]; clear hw77 w7_
  refine ⟨_, rfl, fun A5_3 zz kk s26 => ?_⟩
  replace s2 := kt kk s2
  replace s4 := kt kk s4
  replace s5 := kt kk s5
  replace hz := zz
  clear kk zz s25 A5_2
  refine vt (.bool (!(kdB ((rI mxI l (0, 0)) : Int)))) (ex_not rfl (ev s26 rfl)) hz (fun A5_4 zz kk s27 => ?_)
  replace s2 := kt kk s2
  replace s4 := kt kk s4
  replace s5 := kt kk s5
  replace hz := zz
  clear kk zz s26 A5_3
  refine vt _ (ex_assign rfl (ev s27 rfl)) hz (fun A5_5 zz kk s23 => ?_)
  replace s2 := kt kk s2
  replace s4 := kt kk s4
  replace s5 := kt kk s5
  replace hz := zz
  clear kk zz s27 A5_4
  refine wpList_nil ?_
  go_upto_region 7 with fail
  cases e5 : !kdB ((rI mxI l (0, 0)) : Int)
  rotate_left
  · refine wp_cond_true ((ev s23 rfl).trans (congrArg Value.bool e5)) ?_
    have hK : kdB ((rI mxI l (0, 0)) : Int) = false := by simpa using e5
    have V : rdM l = (⟨zG, [], [], (0, 0)⟩, 70) := by unfold rdM; rw [if_neg (by simp [hE]), if_pos hK]
    clear s23 e5
    go_upto_region 6 with fail
    refine wp_region_lit ?_
    refine vt (zG.val nilS nilS) (ex_build rfl (bdM0 _)) hz (fun A6_1 zz kk s28 => ?_)
    replace s2 := kt kk s2
    replace hz := zz
    clear kk zz s4 s5
    refine vs (sets w7 w.heap.size 0 (zG.cs nilS nilS)) (want_none rfl) (ex_st rfl (ev s2 rfl) (ev s28 rfl) (stM M7 zG nilS nilS rfl rfl)) rfl ?_
    have SP9 := M7.putU zG nilS nilS
    obtain ⟨w9, hw9⟩ : ∃ y, y = sets w7 w.heap.size 0 (zG.cs nilS nilS) := ⟨_, rfl⟩
    rw [← hw9] at SP9 ⊢
    clear hw9
    refine vt (.int .i64 70) (ex_assign rfl rfl) hz (fun A6_2 zz kk s3 => ?_)
    replace s2 := kt kk s2
    replace hz := zz
    clear kk zz s28 A6_1
    refine wpList_nil ?_
    have hfin : Below w.heap.size w w9 := hB7.trans (SP9.2.below (by omega) (by omega))
    go_wp2
    refine bodyPost_msg rfl s2 s3 SP9.1 ?_
    rw [V]
    exact ⟨_, _, rfl, OwnY.nil _ _ _, OwnY.nil _ _ _, hfin⟩
  refine wp_cond_false ((ev s23 rfl).trans (congrArg Value.bool e5)) ?_
  have hK : kdB ((rI mxI l (0, 0)) : Int) = true := by simpa using e5
  clear s23 e5
  obtain ⟨k, hk⟩ : ∃ k, k = (rI mxI l (0, 0)) := ⟨_, rfl⟩
  have hk2 : k < 15 := by have := inR_iff.1 hK; omega
  obtain ⟨x0, hx0⟩ : ∃ x0 : Rst, x0 = ⟨({ zG with k := ((rI mxI l (0, 0)) : Int) } : Mg), [], [], (sI mxI l (0, 0))⟩ := ⟨_, rfl⟩
  have V : rdM l = (rCols l k x0 10, Wi.endErr l.length (rCols l k x0 10).s.1 (rCols l k x0 10).s.2) := by unfold rdM; rw [if_neg (by simp [hE]), if_neg (by simp [hK]), hx0, hk]
  have TB7 := hT.later hB7 hT.lt
  have MS7 : MS w7 qm x0.m x0.L x0.D := by rw [hx0]; exact ⟨_, _, MM7, OwnY.nil _ _ _, OwnY.nil _ _ _⟩
  have hR7x : RD w2.heap.size w7 b l x0.s := by rw [hx0]; exact hR7
  go_upto_region 7 with fail
  refine wp_region_lit ?_
  refine vt (.pointer (some ⟨qm, 0, none⟩)) (ex_fa rfl (ev s5 rfl) (MBox.faKind _ _)) hz (fun A7_1 zz kk s29 => ?_)
  replace s2 := kt kk s2
  replace s4 := kt kk s4
  replace s5 := kt kk s5
  replace hz := zz
  clear kk zz
  refine vt (.int .i64 (k : Int)) (ex_ld rfl (ev s29 rfl) (MM7.ldKind.trans (by rw [hk]))) hz (fun A7_2 zz kk s30 => ?_)
  replace s2 := kt kk s2
  replace s4 := kt kk s4
  replace s5 := kt kk s5
  replace hz := zz
  clear kk zz s29 A7_1
  refine vt (.pointer (some ⟨0, k * 10, none⟩)) (ex_ix rfl rfl (ev s30 rfl) (ixTab k hk2 _)) hz (fun A7_3 zz kk s31 => ?_)
  replace s2 := kt kk s2
  replace s4 := kt kk s4
  replace s5 := kt kk s5
  replace hz := zz
  clear kk zz s30 A7_2
  refine vt (.agg #[.int .u8 (tabA k 0 : Int), .int .u8 (tabA k 1 : Int), .int .u8 (tabA k 2 : Int), .int .u8 (tabA k 3 : Int), .int .u8 (tabA k 4 : Int), .int .u8 (tabA k 5 : Int), .int .u8 (tabA k 6 : Int), .int .u8 (tabA k 7 : Int), .int .u8 (tabA k 8 : Int), .int .u8 (tabA k 9 : Int)]) (ex_ld rfl (ev s31 rfl) (ldRow TB7 hk2)) hz (fun A7_4 zz kk s32 => ?_)
  replace s2 := kt kk s2
  replace s4 := kt kk s4
  replace s5 := kt kk s5
  replace hz := zz
  clear kk zz s31 A7_3
  refine vt (.int .i64 0) (ex_move rfl rfl) hz (fun A7_5 zz kk s33 => ?_)
  replace s2 := kt kk s2
  replace s4 := kt kk s4
  replace s5 := kt kk s5
  replace s32 := kt kk s32
  replace hz := zz
  clear kk zz A7_4
  refine wpList_nil ?_
  go_upto_region 8 with fail
  refine v_loop 33 10 (fun j T wr => T.size = 48 ∧ T[2]? = some (gw true (.pointer (some ⟨w.heap.size, 0, none⟩))) ∧ T[4]? = some (gw true (.pointer (some ⟨qr, 0, none⟩))) ∧ T[5]? = some (gw true (.pointer (some ⟨qm, 0, none⟩))) ∧ T[32]? = some (gw true (.agg #[.int .u8 (tabA k 0 : Int), .int .u8 (tabA k 1 : Int), .int .u8 (tabA k 2 : Int), .int .u8 (tabA k 3 : Int), .int .u8 (tabA k 4 : Int), .int .u8 (tabA k 5 : Int), .int .u8 (tabA k 6 : Int), .int .u8 (tabA k 7 : Int), .int .u8 (tabA k 8 : Int), .int .u8 (tabA k 9 : Int)])) ∧ T[33]? = some (gw true (.int .i64 (j : Int))) ∧ Hid (MS wr qm (rCols l k x0 j).m (rCols l k x0 j).L (rCols l k x0 j).D ∧ RD w2.heap.size wr b l (rCols l k x0 j).s ∧ U2 b qm w7 wr)) (fun j T w h => h.2.2.2.2.2.1) ⟨hz, s2, s4, s5, s32, s33, MS7, hR7x, U2.refl _ _ _⟩ ?_
  clear hz s2 s4 s5 s32 s33
  intro j R0 wr hj hh
  obtain ⟨hz, s2, s4, s5, s32, s33, HI⟩ := hh
  have hsr := HI.out.2.2.size
  have BRr := BR7.ub2 HI.out.2.2 (by omega) (by omega)
  go_upto_region 8 with fail
  refine wp_region_lit ?_
  refine vt (.bool (decide ((j : Int) < 10))) (ex_bin rfl (ev s33 rfl) rfl (lssC _ _ _ _ _)) hz (fun A8_1 zz kk s34 => ?_)
  replace s2 := kt kk s2
  replace s4 := kt kk s4
  replace s5 := kt kk s5
  replace s32 := kt kk s32
  replace s33 := kt kk s33
  replace hz := zz
  clear kk zz
  refine wpList_nil ?_
  go_upto_region 9 with fail
  cases e8 : decide ((j : Int) < 10)
  rotate_left
  · refine wp_cond_true ((ev s34 rfl).trans (congrArg Value.bool e8)) ?_
    have hlt : j < 10 := by have := of_decide_eq_true e8; omega
    clear s34 e8
    go_upto_region 9 with fail
    refine wp_region_lit ?_
    refine vt _ (ex_move rfl (ev s33 rfl)) hz (fun A9_1 zz kk s35 => ?_)
    replace s2 := kt kk s2
    replace s4 := kt kk s4
    replace s5 := kt kk s5
    replace s32 := kt kk s32
    replace s33 := kt kk s33
    replace hz := zz
    clear kk zz
    refine vt (.int .u8 (tabA k j : Int)) (ex_index rfl (ev s32 rfl) (ev s33 rfl) (rowIx k j hlt _)) hz (fun A9_2 zz kk s36 => ?_)
    replace s2 := kt kk s2
    replace s4 := kt kk s4
    replace s5 := kt kk s5
    replace s32 := kt kk s32
    replace s33 := kt kk s33
    replace s35 := kt kk s35
    replace hz := zz
    clear kk zz A9_1
    refine vt _ (ex_assign rfl (ev s35 rfl)) hz (fun A9_3 zz kk s6 => ?_)
    replace s2 := kt kk s2
    replace s4 := kt kk s4
    replace s5 := kt kk s5
    replace s32 := kt kk s32
    replace s33 := kt kk s33
    replace s36 := kt kk s36
    replace hz := zz
    clear kk zz s35 A9_2
    refine vt _ (ex_assign rfl (ev s36 rfl)) hz (fun A9_4 zz kk s7 => ?_)
    replace s2 := kt kk s2
    replace s4 := kt kk s4
    replace s5 := kt kk s5
    replace s6 := kt kk s6
    replace s32 := kt kk s32
    replace s33 := kt kk s33
    replace hz := zz
    clear kk zz s36 A9_3
    refine wpList_nil ?_
    go_upto_region 10 with fail
    refine wp_region_lit ?_
    refine vt _ (ex_move rfl (ev s7 rfl)) hz (fun A10_1 zz kk s37 => ?_)
    replace s2 := kt kk s2
    replace s4 := kt kk s4
    replace s5 := kt kk s5
    replace s6 := kt kk s6
    replace s7 := kt kk s7
    replace s32 := kt kk s32
    replace s33 := kt kk s33
    replace hz := zz
    clear kk zz
    refine vt (.bool (!decide ((tabA k j : Int) = 0))) (ex_bin rfl (ev s37 rfl) rfl (neqU8 _ _ _ _ _)) hz (fun A10_2 zz kk s38 => ?_)
    replace s2 := kt kk s2
    replace s4 := kt kk s4
    replace s5 := kt kk s5
    replace s6 := kt kk s6
    replace s7 := kt kk s7
    replace s32 := kt kk s32
    replace s33 := kt kk s33
    replace hz := zz
    clear kk zz s37 A10_1
    refine wpList_nil ?_
    go_upto_region 11 with fail
    refine v_cond (fun T wr => T.size = 48 ∧ T[2]? = some (gw true (.pointer (some ⟨w.heap.size, 0, none⟩))) ∧ T[4]? = some (gw true (.pointer (some ⟨qr, 0, none⟩))) ∧ T[5]? = some (gw true (.pointer (some ⟨qm, 0, none⟩))) ∧ T[32]? = some (gw true (.agg #[.int .u8 (tabA k 0 : Int), .int .u8 (tabA k 1 : Int), .int .u8 (tabA k 2 : Int), .int .u8 (tabA k 3 : Int), .int .u8 (tabA k 4 : Int), .int .u8 (tabA k 5 : Int), .int .u8 (tabA k 6 : Int), .int .u8 (tabA k 7 : Int), .int .u8 (tabA k 8 : Int), .int .u8 (tabA k 9 : Int)])) ∧ T[33]? = some (gw true (.int .i64 (j : Int))) ∧ Hid (MS wr qm (rCols l k x0 (j + 1)).m (rCols l k x0 (j + 1)).L (rCols l k x0 (j + 1)).D ∧ RD w2.heap.size wr b l (rCols l k x0 (j + 1)).s ∧ U2 b qm w7 wr)) s38 (fun hu => ?_) (fun hu => ⟨hz, s2, s4, s5, s32, s33, by rw [rCols_none (show tabA k j = 0 by have h0 : ((tabA k j : Nat) : Int) = 0 := (by simpa using hu); omega)]; exact HI.out⟩) ?_
    · clear s38
      go_upto_region 11 with fail
      refine wp_region_lit ?_
      refine vt (.agg #[.pointer (some ⟨b, 0, none⟩)]) (ex_ld rfl (ev s4 rfl) (ldRd (BRr.cell 0 _ rfl))) hz (fun A11_1 zz kk s39 => ?_)
      replace s2 := kt kk s2
      replace s4 := kt kk s4
      replace s5 := kt kk s5
      replace s6 := kt kk s6
      replace s7 := kt kk s7
      replace s32 := kt kk s32
      replace s33 := kt kk s33
      replace hz := zz
      clear kk zz
      refine vt _ (ex_move rfl (ev s6 rfl)) hz (fun A11_2 zz kk s40 => ?_)
      replace s2 := kt kk s2
      replace s4 := kt kk s4
      replace s5 := kt kk s5
      replace s7 := kt kk s7
      replace s32 := kt kk s32
      replace s33 := kt kk s33
      replace s39 := kt kk s39
      replace hz := zz
      clear kk zz s6 A11_1
      refine vt _ (ex_move rfl (ev s7 rfl)) hz (fun A11_3 zz kk s41 => ?_)
      replace s2 := kt kk s2
      replace s4 := kt kk s4
      replace s5 := kt kk s5
      replace s32 := kt kk s32
      replace s33 := kt kk s33
      replace s39 := kt kk s39
      replace s40 := kt kk s40
      replace hz := zz
      clear kk zz s7 A11_2
      refine vcallP (want_none rfl) (ex_call rfl (by simp only [List.map_toArray, List.map_cons, List.map_nil, (ev s39 rfl), (ev s5 rfl), (ev s40 rfl), (ev s41 rfl), evc] <;> rfl) rfl) (rfield_all w2.heap.size b qm l (rCols l k x0 j) j hlt (tabA k j : Int) wr (by omega) HI.out.1 HI.out.2.1) rfl hz (by decide) ?_
      rintro e w8 ⟨rfl, hM8, hR8, hu8⟩
      refine ⟨_, rfl, fun A11_4 zz kk s42 => ?_⟩
      replace s2 := kt kk s2
      replace s4 := kt kk s4
      replace s5 := kt kk s5
      replace s32 := kt kk s32
      replace s33 := kt kk s33
      replace hz := zz
      clear kk zz s39 s40 s41 A11_3
      refine wpList_nil ?_
      exact ⟨_, rfl, hz, s2, s4, s5, s32, s33, by rw [rCols_some (show ¬ tabA k j = 0 by intro h0; rw [h0] at hu; simp at hu)]; exact ⟨hM8, hR8, HI.out.2.2.trans hu8⟩⟩
    · clear hz s2 s4 s5 s32 s33 s38 HI BRr hsr
      intro T8 w8 hJ
      obtain ⟨hz, s2, s4, s5, s32, s33, HI⟩ := hJ
      go_upto_region 12 with fail
      refine wp_region_lit ?_
      refine vt (.int .i64 ((j + 1 : Nat) : Int)) (ex_bin rfl (ev s33 rfl) rfl (addJ j (by omega) _ _ _)) hz (fun A12_1 zz kk s43 => ?_)
      replace s2 := kt kk s2
      replace s4 := kt kk s4
      replace s5 := kt kk s5
      replace s32 := kt kk s32
      replace s33 := kt kk s33
      replace hz := zz
      clear kk zz
      refine vt _ (ex_move rfl (ev s43 rfl)) hz (fun A12_2 zz kk s33x => ?_)
      replace s2 := kt kk s2
      replace s4 := kt kk s4
      replace s5 := kt kk s5
      replace s32 := kt kk s32
      clear kk hz s43 s33
      have hz := zz
      have s33 := s33x
      clear zz s33x A12_1
      refine wpList_nil ?_
      exact ⟨_, rfl, by omega, hz, s2, s4, s5, s32, s33, HI.out⟩
  refine wp_cond_false ((ev s34 rfl).trans (congrArg Value.bool e8)) ?_
  have hj10 : j = 10 := by have := of_decide_eq_false e8; omega
  subst hj10
  clear s34 e8 s32 s33 hj
  obtain ⟨vs_, vt_, MMr, OLr, ODr⟩ := HI.out.1
  have M0r := M7.upd HI.out.2.2 (by omega)
  obtain ⟨av, cv, rfl, _⟩ := OLr.form
  obtain ⟨at_, ct, rfl, _⟩ := ODr.form
  go_upto_region 13 with fail
  refine vh_start (fun v => U2 b w.heap.size wr v) (by kernel_rfl) ?_
  have hS : U2 b w.heap.size wr wr.drew := U2.b (UB.of_below (Below.refl _ _).drew)
  have hRd := HI.out.2.1.later (Below.refl _ _).drew
  refine vh_take 0 true ((rCols l k x0 10).m.val (.slice av (rCols l k x0 10).L.length cv) (.slice at_ (rCols l k x0 10).D.length ct)) rfl (by kernel_rfl) (by kernel_rfl) (by kernel_rfl) (want_none rfl) (fun hc v hv => ex_ld rfl (ev s5 rfl) ((MMr.upd hv (by omega)).ldAll)) rfl hz (by decide) hS (fun A13_1 zz kk s44 => ?_)
  replace s2 := kt kk s2
  replace s4 := kt kk s4
  replace hz := zz
  clear kk zz s5
  refine vh_take 1 true (.pointer (some ⟨qr, 0, none⟩)) rfl (by kernel_rfl) (by kernel_rfl) (by kernel_rfl) (want_none rfl) (fun hc v hv => ex_fa rfl (ev s4 rfl) (by go_simp)) rfl hz (by decide) hS (fun A13_2 zz kk s45 => ?_)
  replace s2 := kt kk s2
  replace s44 := kt kk s44
  replace hz := zz
  clear kk zz s4 A13_1
  refine vh_take 2 true (.pointer (some ⟨b, 0, none⟩)) rfl (by kernel_rfl) (by kernel_rfl) (by kernel_rfl) (want_none rfl) (fun hc v hv => ex_ld rfl (ev s45 rfl) (ldRp ((BRr.ub2 hv (by omega) (by omega)).cell 0 _ rfl))) rfl hz (by decide) hS (fun A13_3 zz kk s46 => ?_)
  replace s2 := kt kk s2
  replace s44 := kt kk s44
  replace hz := zz
  clear kk zz s45 A13_2
  refine vh_call 3 rfl (by kernel_rfl) (want_none rfl) (ex_call rfl (by simp only [List.map_toArray, List.map_cons, List.map_nil, (ev s46 rfl), evc] <;> rfl) rfl) (rd_End w2.heap.size b l (rCols l k x0 10).s wr.drew hRd) rfl hz (by decide) ?_
  rintro e w8 ⟨rfl, hb8⟩
  refine ⟨_, rfl, (hS.trans (U2.b (UB.of_below hb8))), fun A13_4 zz kk s47 => ?_⟩
  have hb8r : Below wr.heap.size wr w8 := (Below.refl _ _).drew.trans hb8
  have hS8 : U2 b w.heap.size wr w8 := U2.b (UB.of_below hb8r)
  have M8 := M0r.bel hb8r
  have hs8 := hb8r.size
  replace s2 := kt kk s2
  replace s44 := kt kk s44
  replace hz := zz
  clear kk zz s46 A13_3
  refine vh_store 4 (sets w8 w.heap.size 0 ((rCols l k x0 10).m.cs (.slice av (rCols l k x0 10).L.length cv) (.slice at_ (rCols l k x0 10).D.length ct))) rfl (by kernel_rfl) (want_none rfl) (ex_st rfl (ev s2 rfl) (ev s44 rfl) (stM M8 (rCols l k x0 10).m (.slice av (rCols l k x0 10).L.length cv) (.slice at_ (rCols l k x0 10).D.length ct) rfl rfl)) rfl (hS8.trans (U2.q (M8.putU (rCols l k x0 10).m (.slice av (rCols l k x0 10).L.length cv) (.slice at_ (rCols l k x0 10).D.length ct)).2)) ?_
  have SP9 := M8.putU (rCols l k x0 10).m (.slice av (rCols l k x0 10).L.length cv) (.slice at_ (rCols l k x0 10).D.length ct)
  obtain ⟨w9, hw9⟩ : ∃ y, y = sets w8 w.heap.size 0 ((rCols l k x0 10).m.cs (.slice av (rCols l k x0 10).L.length cv) (.slice at_ (rCols l k x0 10).D.length ct)) := ⟨_, rfl⟩
  rw [← hw9] at SP9 ⊢
  clear hw9
  have hS9 : U2 b w.heap.size wr w9 := hS8.trans (U2.q SP9.2)
  refine vh_take 5 true (.int .i64 (Wi.endErr l.length (rCols l k x0 10).s.1 (rCols l k x0 10).s.2)) rfl (by kernel_rfl) (by kernel_rfl) (by kernel_rfl) (want_none rfl) (fun hc v hv => ex_assign rfl (ev s47 rfl)) rfl hz (by decide) hS9 (fun A13_5 zz kk s3 => ?_)
  replace s2 := kt kk s2
  replace hz := zz
  clear kk zz s44 s47 A13_4
  refine vh_done (by kernel_rfl) ?_
  have hsr2 := HI.out.2.2.size
  have hfin : Below w.heap.size w w9 := hB7.trans ((Upd.below HI.out.2.2 (by omega) (fun k hk => by omega)).trans ((hb8r.mono (by omega)).trans (SP9.2.below (by omega) (by omega))))
  have OL9 := ((OLr.later8 hb8r).far SP9.2 (fun k hk => by omega)).low (show w.heap.size ≤ qm + 1 by omega)
  have OD9 := ((ODr.later8 hb8r).far SP9.2 (fun k hk => by omega)).low (show w.heap.size ≤ qm + 1 by omega)
  go_wp2
  refine bodyPost_msg rfl s2 s3 SP9.1 ?_
  rw [V]
  exact ⟨_, _, rfl, OL9, OD9, hfin⟩
end Go.Proofs.YtibedokegignhaaGreatDoor
