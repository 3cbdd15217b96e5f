import Derived.Laws.ResultCell
import Derived.Test.YtibedokegignhaaGreatDoorF4
set_option maxRecDepth 100000
set_option linter.unusedVariables false
set_option linter.unusedSimpArgs false
namespace Go.Proofs.YtibedokegignhaaGreatDoor
open Go.RowKit Go.Maps
open Classical
theorem MBox.splice {w : World} {q : Nat} {m : Mg} {s t : Value} (h : MBox w q m s t) (o : Nat) (vs : List Value) (m' : Mg) (s' t' : Value) (ho : o + vs.length ≤ 18) (hc : m'.cs s' t' = (m.cs s t).take o ++ vs ++ (m.cs s t).drop (o + vs.length)) : MBox (sets w q o vs) q m' s' t' ∧ UB q w (sets w q o vs) := by
  have h18 : (m.cs s t).length = 18 := rfl
  refine ⟨⟨by rw [size_sets]; exact h.lt, sets_kind _ _ _ h.kind, fun i x hx => ?_, fun i => sets_free _ _ _ (h.free i)⟩, upd_sets (S := fun b => b = q) (b := q) rfl _ _ _ (Upd.refl _ _)⟩
  rw [hc] at hx
  by_cases h1 : i < o
  · rw [List.append_assoc, List.getElem?_append_left (by rw [List.length_take, h18]; omega), List.getElem?_take, if_pos h1] at hx
    rw [← setCells_sets, World.cell?_setCells_out _ _ _ _ _ (fun _ _ => .inl h1)]
    exact h.cell i x hx
  · by_cases h2 : i < o + vs.length
    · rw [List.append_assoc, List.getElem?_append_right (by rw [List.length_take, h18]; omega), List.length_take, h18, Nat.min_eq_left (by omega), List.getElem?_append_left (by omega)] at hx
      have := sets_at (b := q) vs o w (fun k hk => ⟨_, h.cell (o + k) _ (List.getElem?_eq_getElem (show o + k < (m.cs s t).length by rw [h18]; omega))⟩) (i - o) x hx
      rw [show o + (i - o) = i by omega] at this
      exact this
    · rw [List.getElem?_append_right (by rw [List.length_append, List.length_take, h18]; omega), List.length_append, List.length_take, h18, Nat.min_eq_left (by omega), List.getElem?_drop, show o + vs.length + (i - (o + vs.length)) = i by omega] at hx
      rw [← setCells_sets, World.cell?_setCells_out _ _ _ _ _ (fun _ _ => .inr (by show o + vs.length ≤ i; omega))]
      exact h.cell i x hx
theorem MBox.stAt {w : World} {q : Nat} {m : Mg} {s t : Value} (h : MBox w q m s t) (ty : TypeId) (o : Nat) (vs : List Value) (ho : o + vs.length ≤ 18) (hi : (Tryz.prog.info? ty).map (·.size) = some vs.toArray.size) (h1 : vs.toArray.all (·.oneCell') = true) : (Instr.storeAt ty (.pointer (some ⟨q, o, none⟩)) (.agg vs.toArray)).run Tryz.prog w = .ok () (sets w q o vs) := by
  have := run_storeAt_mid (P := Tryz.prog) w q o ty vs.toArray (fun j hj => ⟨by rw [h.cell (o + j) _ (List.getElem?_eq_getElem (show o + j < (m.cs s t).length by have hj2 : j < vs.length := (by simpa using hj); show o + j < 18; omega))]; rfl, h.free (o + j)⟩) hi h1
  rw [setCells_sets] at this
  exact this
theorem stInt {w : World} {q o : Nat} {y : Value} (x : Int) (h : w.cell? ⟨q, o, none⟩ = some y) (hf : w.frozen? ⟨q, o, none⟩ = false) : (Instr.storeAt 3 (.pointer (some ⟨q, o, none⟩)) (.int .i64 x)).run Tryz.prog w = .ok () (sets w q o [.int .i64 x]) := by
  show _ = Result.ok () (w.setCell ⟨q, o, none⟩ (.int .i64 x))
  go_simp
theorem stSlE {w : World} {q o : Nat} {y : Value} (a : Option Addr) (n c : Nat) (h : w.cell? ⟨q, o, none⟩ = some y) (hf : w.frozen? ⟨q, o, none⟩ = false) : (Instr.storeAt 34 (.pointer (some ⟨q, o, none⟩)) (.slice a n c)).run Tryz.prog w = .ok () (sets w q o [.slice a n c]) := by
  show _ = Result.ok () (w.setCell ⟨q, o, none⟩ (.slice a n c))
  go_simp
theorem stSlD {w : World} {q o : Nat} {y : Value} (a : Option Addr) (n c : Nat) (h : w.cell? ⟨q, o, none⟩ = some y) (hf : w.frozen? ⟨q, o, none⟩ = false) : (Instr.storeAt 36 (.pointer (some ⟨q, o, none⟩)) (.slice a n c)).run Tryz.prog w = .ok () (sets w q o [.slice a n c]) := by
  show _ = Result.ok () (w.setCell ⟨q, o, none⟩ (.slice a n c))
  go_simp
def MS (w : World) (q : Nat) (m : Mg) (L : List En) (D : List (Int × Int)) : Prop := ∃ s t, MBox w q m s t ∧ OwnY yE (q + 1) w s L ∧ OwnY yD (q + 1) w t D
theorem OwnY.far {α : Type} {Y : Lay α} {B : Nat} {w w' : World} {v : Value} {l : List α} {S : Nat → Prop} (h : OwnY Y B w v l) (u : Upd S w w') (hS : ∀ k, B ≤ k → ¬ S k) : OwnY Y B w' v l :=
  h.upd1 u (fun g hg => hS g (World.ownsRow.lt h g hg).1)
structure Rst where
  m : Mg
  L : List En
  D : List (Int × Int)
  s : Nat × Int
def rCol (l : List Int) (x : Rst) (j : Nat) (op : Bool) : Rst :=
  match j with
  | 0 => ⟨{ x.m with nd := (rI mxI l x.s : Int) }, x.L, x.D, sI mxI l x.s⟩
  | 1 => ⟨{ x.m with vw := (rI mxI l x.s : Int) }, x.L, x.D, sI mxI l x.s⟩
  | 2 => ⟨{ x.m with ls := (rI mxI l x.s : Int) }, x.L, x.D, sI mxI l x.s⟩
  | 3 => ⟨{ x.m with p := (rI mxI l x.s : Int) }, x.L, x.D, sI mxI l x.s⟩
  | 4 => ⟨{ x.m with cm := (rI mxI l x.s : Int) }, x.L, x.D, sI mxI l x.s⟩
  | 5 => ⟨{ x.m with d := rD l x.s }, x.L, x.D, sD l x.s⟩
  | 6 => if op then ⟨{ x.m with e := rE l x.s }, x.L, x.D, sE l x.s⟩ else ⟨{ x.m with e := ⟨(rI mxI l x.s : Int), (rI mxI l (sI mxI l x.s) : Int), ⟨0, 0, ⟨#[]⟩⟩⟩ }, x.L, x.D, s2 l x.s⟩
  | 7 => ⟨{ x.m with r := ((rO l x.s).k, (rO l x.s).s, (rO l x.s).v) }, x.L, x.D, sO l x.s⟩
  | 8 => ⟨x.m, esL l (sI 256 l x.s) (rI 256 l x.s), x.D, esS l (sI 256 l x.s) (rI 256 l x.s)⟩
  | 9 => ⟨x.m, x.L, dsL l (sI 7 l x.s) (rI 7 l x.s), dsS l (sI 7 l x.s) (rI 7 l x.s)⟩
  | _ => x
def U2 (b q : Nat) (w w' : World) : Prop := Upd (fun k => k = b ∨ k = q) w w'
theorem U2.refl (b q : Nat) (w : World) : U2 b q w w := Upd.refl _ _
theorem U2.trans {b q : Nat} {u v w : World} (h : U2 b q u v) (k : U2 b q v w) : U2 b q u w := Upd.trans h k
theorem U2.b {b q : Nat} {w w' : World} (h : UB b w w') : U2 b q w w' := Upd.mono h (fun k _ hk => .inl hk)
theorem U2.q {b q : Nat} {w w' : World} (h : UB q w w') : U2 b q w w' := Upd.mono h (fun k _ hk => .inr hk)
set_option maxHeartbeats 4000000 in
theorem rfield_0 (N b qm : Nat) (l : List Int) (x : Rst) (q : Int) (w : World) (hN : N ≤ qm) (hM : MS w qm x.m x.L x.D) (h : RD N w b l x.s) : Calls Tryz.prog 101 #[.agg #[.pointer (some ⟨b, 0, none⟩)], .pointer (some ⟨qm, 0, none⟩), .int .i64 0, .int .u8 q] w fun e w' => e = .returned (.tuple #[]) ∧ MS w' qm (rCol l x 0 (!decide (q = 15))).m (rCol l x 0 (!decide (q = 15))).L (rCol l x 0 (!decide (q = 15))).D ∧ RD N w' b l (rCol l x 0 (!decide (q = 15))).s ∧ U2 b qm w w' := by
  have hlt := h.lt
  obtain ⟨s_, t_, M0, OL0, OD0⟩ := hM
  have hqm := M0.lt
  have hqb : w.heap.size ≠ b := by omega
  go_enter Tryz.func101, Tryz.ntmps101
  go_upto_region 3 with fail
  obtain ⟨w1, hw1⟩ : ∃ w1, w1 = w.alloc (.cells #[.pointer (some ⟨b, 0, none⟩)] 157) := ⟨_, rfl⟩
  rw [← hw1]
  have hb01 : Below w.heap.size w w1 := by rw [hw1]; exact (Below.refl _ _).alloc (Nat.le_refl _) _
  have B1 : Bx w1 w.heap.size [.pointer (some ⟨b, 0, none⟩)] := by rw [hw1]; exact Bx.new w [.pointer (some ⟨b, 0, none⟩)] _
  have hR1 := h.later hb01
  have M1 := M0.bel hb01
  have OL1 := OL0.far (Upd.of_below (S := fun _ => False) hb01) (fun _ _ => id)
  have OD1 := OD0.far (Upd.of_below (S := fun _ => False) hb01) (fun _ _ => id)
  have hB1lt := B1.lt
  clear hw1
  refine wp_region_lit ?_
  refine vl_gen (fun T => T.size = 87 ∧ T[1]? = some (gw true (.pointer (some ⟨qm, 0, none⟩))) ∧ T[3]? = some (gw true (.int .u8 q)) ∧ T[4]? = some (gw true (.pointer (some ⟨w.heap.size, 0, none⟩)))) ⟨rfl, rfl, rfl, rfl⟩ (fun T0 ⟨hz, s1, s3, s4⟩ => ?_)
  refine vt _ (ex_move rfl (ev s1 rfl)) hz (fun A_1 zz kk s11 => ?_)
  replace s1 := ku s1
  replace s3 := ku s3
  replace s4 := ku s4
  replace hz := zz
  clear kk zz
  refine vt (.agg #[.pointer (some ⟨b, 0, none⟩)]) (ex_ld rfl (ev s4 rfl) (ldRd (B1.cell 0 _ rfl))) hz (fun A_2 zz kk s12 => ?_)
  replace s1 := ku s1
  replace s3 := ku s3
  replace s4 := ku s4
  replace s11 := ku s11
  replace hz := zz
  clear kk zz A_1
  refine vcallP (want_none rfl) (ex_call rfl (by simp only [List.map_toArray, List.map_cons, List.map_nil, (ev s12 rfl), evc] <;> rfl) rfl) (rnumber_any N b l x.s w1 hR1) rfl hz (by decide) ?_
  rintro e w2 ⟨rfl, hR2, hu2⟩
  refine ⟨_, rfl, fun A_3 zz kk s13 => ?_⟩
  have B2 := B1.ub hu2 hqb
  have M2 := M1.upd hu2 (by omega)
  have OL2 := OL1.far hu2 (fun k hk => by omega)
  have OD2 := OD1.far hu2 (fun k hk => by omega)
  replace s1 := ku s1
  replace s3 := ku s3
  replace s4 := ku s4
  replace s11 := ku s11
  replace hz := zz
  clear kk zz s12 A_2
  refine vt (.pointer (some ⟨qm, 0, none⟩)) (ex_nil rfl (ev s11 rfl)) hz (fun A_4 zz kk s14 => ?_)
  replace s1 := ku s1
  replace s3 := ku s3
  replace s4 := ku s4
  replace s13 := ku s13
  replace hz := zz
  clear kk zz s11 A_3
  refine vt (.pointer (some ⟨qm, 1, none⟩)) (ex_fa rfl (ev s14 rfl) (MBox.faNode _ _)) hz (fun A_5 zz kk s15 => ?_)
  replace s1 := ku s1
  replace s3 := ku s3
  replace s4 := ku s4
  replace s13 := ku s13
  replace hz := zz
  clear kk zz s14 A_4
  refine vs (sets w2 qm 1 [.int .i64 (rI mxI l x.s : Int)]) (want_none rfl) (ex_st rfl (ev s15 rfl) (ev s13 rfl) (stInt _ (M2.cell 1 _ rfl) (M2.free 1))) rfl ?_
  have SP3 := M2.splice 1 [.int .i64 (rI mxI l x.s : Int)] { x.m with nd := (rI mxI l x.s : Int) } s_ t_ (by show _ + _ ≤ 18; simp) rfl
  obtain ⟨w3, hw3⟩ : ∃ y, y = sets w2 qm 1 [.int .i64 (rI mxI l x.s : Int)] := ⟨_, rfl⟩
  rw [← hw3] at SP3 ⊢
  clear hw3
  have M3 := SP3.1
  have hR3 := hR2.ub SP3.2 (fun k hk => by omega)
  have B3 := B2.ub SP3.2 (by omega)
  have OL3 := OL2.far SP3.2 (fun k hk => by omega)
  have OD3 := OD2.far SP3.2 (fun k hk => by omega)
  refine wpList_nil ?_
  go_wp2
  go_end0
  exact ⟨rfl, ⟨_, _, M3, OL3, OD3⟩, hR3, (U2.b (UB.of_below hb01)).trans ((U2.b hu2).trans (U2.q SP3.2))⟩
set_option maxHeartbeats 4000000 in
theorem rfield_1 (N b qm : Nat) (l : List Int) (x : Rst) (q : Int) (w : World) (hN : N ≤ qm) (hM : MS w qm x.m x.L x.D) (h : RD N w b l x.s) : Calls Tryz.prog 101 #[.agg #[.pointer (some ⟨b, 0, none⟩)], .pointer (some ⟨qm, 0, none⟩), .int .i64 1, .int .u8 q] w fun e w' => e = .returned (.tuple #[]) ∧ MS w' qm (rCol l x 1 (!decide (q = 15))).m (rCol l x 1 (!decide (q = 15))).L (rCol l x 1 (!decide (q = 15))).D ∧ RD N w' b l (rCol l x 1 (!decide (q = 15))).s ∧ U2 b qm w w' := by
  have hlt := h.lt
  obtain ⟨s_, t_, M0, OL0, OD0⟩ := hM
  have hqm := M0.lt
  have hqb : w.heap.size ≠ b := by omega
  go_enter Tryz.func101, Tryz.ntmps101
  go_upto_region 5 with fail
  obtain ⟨w1, hw1⟩ : ∃ w1, w1 = w.alloc (.cells #[.pointer (some ⟨b, 0, none⟩)] 157) := ⟨_, rfl⟩
  rw [← hw1]
  have hb01 : Below w.heap.size w w1 := by rw [hw1]; exact (Below.refl _ _).alloc (Nat.le_refl _) _
  have B1 : Bx w1 w.heap.size [.pointer (some ⟨b, 0, none⟩)] := by rw [hw1]; exact Bx.new w [.pointer (some ⟨b, 0, none⟩)] _
  have hR1 := h.later hb01
  have M1 := M0.bel hb01
  have OL1 := OL0.far (Upd.of_below (S := fun _ => False) hb01) (fun _ _ => id)
  have OD1 := OD0.far (Upd.of_below (S := fun _ => False) hb01) (fun _ _ => id)
  have hB1lt := B1.lt
  clear hw1
  refine wp_region_lit ?_
  refine vl_gen (fun T => T.size = 87 ∧ T[1]? = some (gw true (.pointer (some ⟨qm, 0, none⟩))) ∧ T[3]? = some (gw true (.int .u8 q)) ∧ T[4]? = some (gw true (.pointer (some ⟨w.heap.size, 0, none⟩)))) ⟨rfl, rfl, rfl, rfl⟩ (fun T0 ⟨hz, s1, s3, s4⟩ => ?_)
  refine vt _ (ex_move rfl (ev s1 rfl)) hz (fun A_1 zz kk s18 => ?_)
  replace s1 := ku s1
  replace s3 := ku s3
  replace s4 := ku s4
  replace hz := zz
  clear kk zz
  refine vt (.agg #[.pointer (some ⟨b, 0, none⟩)]) (ex_ld rfl (ev s4 rfl) (ldRd (B1.cell 0 _ rfl))) hz (fun A_2 zz kk s19 => ?_)
  replace s1 := ku s1
  replace s3 := ku s3
  replace s4 := ku s4
  replace s18 := ku s18
  replace hz := zz
  clear kk zz A_1
  refine vcallP (want_none rfl) (ex_call rfl (by simp only [List.map_toArray, List.map_cons, List.map_nil, (ev s19 rfl), evc] <;> rfl) rfl) (rnumber_any N b l x.s w1 hR1) rfl hz (by decide) ?_
  rintro e w2 ⟨rfl, hR2, hu2⟩
  refine ⟨_, rfl, fun A_3 zz kk s20 => ?_⟩
  have B2 := B1.ub hu2 hqb
  have M2 := M1.upd hu2 (by omega)
  have OL2 := OL1.far hu2 (fun k hk => by omega)
  have OD2 := OD1.far hu2 (fun k hk => by omega)
  replace s1 := ku s1
  replace s3 := ku s3
  replace s4 := ku s4
  replace s18 := ku s18
  replace hz := zz
  clear kk zz s19 A_2
  refine vt (.pointer (some ⟨qm, 0, none⟩)) (ex_nil rfl (ev s18 rfl)) hz (fun A_4 zz kk s21 => ?_)
  replace s1 := ku s1
  replace s3 := ku s3
  replace s4 := ku s4
  replace s20 := ku s20
  replace hz := zz
  clear kk zz s18 A_3
  refine vt (.pointer (some ⟨qm, 2, none⟩)) (ex_fa rfl (ev s21 rfl) (MBox.faView _ _)) hz (fun A_5 zz kk s22 => ?_)
  replace s1 := ku s1
  replace s3 := ku s3
  replace s4 := ku s4
  replace s20 := ku s20
  replace hz := zz
  clear kk zz s21 A_4
  refine vs (sets w2 qm 2 [.int .i64 (rI mxI l x.s : Int)]) (want_none rfl) (ex_st rfl (ev s22 rfl) (ev s20 rfl) (stInt _ (M2.cell 2 _ rfl) (M2.free 2))) rfl ?_
  have SP3 := M2.splice 2 [.int .i64 (rI mxI l x.s : Int)] { x.m with vw := (rI mxI l x.s : Int) } s_ t_ (by show _ + _ ≤ 18; simp) rfl
  obtain ⟨w3, hw3⟩ : ∃ y, y = sets w2 qm 2 [.int .i64 (rI mxI l x.s : Int)] := ⟨_, rfl⟩
  rw [← hw3] at SP3 ⊢
  clear hw3
  have M3 := SP3.1
  have hR3 := hR2.ub SP3.2 (fun k hk => by omega)
  have B3 := B2.ub SP3.2 (by omega)
  have OL3 := OL2.far SP3.2 (fun k hk => by omega)
  have OD3 := OD2.far SP3.2 (fun k hk => by omega)
  refine wpList_nil ?_
  go_wp2
  go_end0
  exact ⟨rfl, ⟨_, _, M3, OL3, OD3⟩, hR3, (U2.b (UB.of_below hb01)).trans ((U2.b hu2).trans (U2.q SP3.2))⟩
set_option maxHeartbeats 4000000 in
theorem rfield_2 (N b qm : Nat) (l : List Int) (x : Rst) (q : Int) (w : World) (hN : N ≤ qm) (hM : MS w qm x.m x.L x.D) (h : RD N w b l x.s) : Calls Tryz.prog 101 #[.agg #[.pointer (some ⟨b, 0, none⟩)], .pointer (some ⟨qm, 0, none⟩), .int .i64 2, .int .u8 q] w fun e w' => e = .returned (.tuple #[]) ∧ MS w' qm (rCol l x 2 (!decide (q = 15))).m (rCol l x 2 (!decide (q = 15))).L (rCol l x 2 (!decide (q = 15))).D ∧ RD N w' b l (rCol l x 2 (!decide (q = 15))).s ∧ U2 b qm w w' := by
  have hlt := h.lt
  obtain ⟨s_, t_, M0, OL0, OD0⟩ := hM
  have hqm := M0.lt
  have hqb : w.heap.size ≠ b := by omega
  go_enter Tryz.func101, Tryz.ntmps101
  go_upto_region 7 with fail
  obtain ⟨w1, hw1⟩ : ∃ w1, w1 = w.alloc (.cells #[.pointer (some ⟨b, 0, none⟩)] 157) := ⟨_, rfl⟩
  rw [← hw1]
  have hb01 : Below w.heap.size w w1 := by rw [hw1]; exact (Below.refl _ _).alloc (Nat.le_refl _) _
  have B1 : Bx w1 w.heap.size [.pointer (some ⟨b, 0, none⟩)] := by rw [hw1]; exact Bx.new w [.pointer (some ⟨b, 0, none⟩)] _
  have hR1 := h.later hb01
  have M1 := M0.bel hb01
  have OL1 := OL0.far (Upd.of_below (S := fun _ => False) hb01) (fun _ _ => id)
  have OD1 := OD0.far (Upd.of_below (S := fun _ => False) hb01) (fun _ _ => id)
  have hB1lt := B1.lt
  clear hw1
  refine wp_region_lit ?_
  refine vl_gen (fun T => T.size = 87 ∧ T[1]? = some (gw true (.pointer (some ⟨qm, 0, none⟩))) ∧ T[3]? = some (gw true (.int .u8 q)) ∧ T[4]? = some (gw true (.pointer (some ⟨w.heap.size, 0, none⟩)))) ⟨rfl, rfl, rfl, rfl⟩ (fun T0 ⟨hz, s1, s3, s4⟩ => ?_)
  refine vt _ (ex_move rfl (ev s1 rfl)) hz (fun A_1 zz kk s25 => ?_)
  replace s1 := ku s1
  replace s3 := ku s3
  replace s4 := ku s4
  replace hz := zz
  clear kk zz
  refine vt (.agg #[.pointer (some ⟨b, 0, none⟩)]) (ex_ld rfl (ev s4 rfl) (ldRd (B1.cell 0 _ rfl))) hz (fun A_2 zz kk s26 => ?_)
  replace s1 := ku s1
  replace s3 := ku s3
  replace s4 := ku s4
  replace s25 := ku s25
  replace hz := zz
  clear kk zz A_1
  refine vcallP (want_none rfl) (ex_call rfl (by simp only [List.map_toArray, List.map_cons, List.map_nil, (ev s26 rfl), evc] <;> rfl) rfl) (rnumber_any N b l x.s w1 hR1) rfl hz (by decide) ?_
  rintro e w2 ⟨rfl, hR2, hu2⟩
  refine ⟨_, rfl, fun A_3 zz kk s27 => ?_⟩
  have B2 := B1.ub hu2 hqb
  have M2 := M1.upd hu2 (by omega)
  have OL2 := OL1.far hu2 (fun k hk => by omega)
  have OD2 := OD1.far hu2 (fun k hk => by omega)
  replace s1 := ku s1
  replace s3 := ku s3
  replace s4 := ku s4
  replace s25 := ku s25
  replace hz := zz
  clear kk zz s26 A_2
  refine vt (.pointer (some ⟨qm, 0, none⟩)) (ex_nil rfl (ev s25 rfl)) hz (fun A_4 zz kk s28 => ?_)
  replace s1 := ku s1
  replace s3 := ku s3
  replace s4 := ku s4
  replace s27 := ku s27
  replace hz := zz
  clear kk zz s25 A_3
  refine vt (.pointer (some ⟨qm, 13, none⟩)) (ex_fa rfl (ev s28 rfl) (MBox.faLast _ _)) hz (fun A_5 zz kk s29 => ?_)
  replace s1 := ku s1
  replace s3 := ku s3
  replace s4 := ku s4
  replace s27 := ku s27
  replace hz := zz
  clear kk zz s28 A_4
  refine vs (sets w2 qm 13 [.int .i64 (rI mxI l x.s : Int)]) (want_none rfl) (ex_st rfl (ev s29 rfl) (ev s27 rfl) (stInt _ (M2.cell 13 _ rfl) (M2.free 13))) rfl ?_
  have SP3 := M2.splice 13 [.int .i64 (rI mxI l x.s : Int)] { x.m with ls := (rI mxI l x.s : Int) } s_ t_ (by show _ + _ ≤ 18; simp) rfl
  obtain ⟨w3, hw3⟩ : ∃ y, y = sets w2 qm 13 [.int .i64 (rI mxI l x.s : Int)] := ⟨_, rfl⟩
  rw [← hw3] at SP3 ⊢
  clear hw3
  have M3 := SP3.1
  have hR3 := hR2.ub SP3.2 (fun k hk => by omega)
  have B3 := B2.ub SP3.2 (by omega)
  have OL3 := OL2.far SP3.2 (fun k hk => by omega)
  have OD3 := OD2.far SP3.2 (fun k hk => by omega)
  refine wpList_nil ?_
  go_wp2
  go_end0
  exact ⟨rfl, ⟨_, _, M3, OL3, OD3⟩, hR3, (U2.b (UB.of_below hb01)).trans ((U2.b hu2).trans (U2.q SP3.2))⟩
set_option maxHeartbeats 4000000 in
theorem rfield_3 (N b qm : Nat) (l : List Int) (x : Rst) (q : Int) (w : World) (hN : N ≤ qm) (hM : MS w qm x.m x.L x.D) (h : RD N w b l x.s) : Calls Tryz.prog 101 #[.agg #[.pointer (some ⟨b, 0, none⟩)], .pointer (some ⟨qm, 0, none⟩), .int .i64 3, .int .u8 q] w fun e w' => e = .returned (.tuple #[]) ∧ MS w' qm (rCol l x 3 (!decide (q = 15))).m (rCol l x 3 (!decide (q = 15))).L (rCol l x 3 (!decide (q = 15))).D ∧ RD N w' b l (rCol l x 3 (!decide (q = 15))).s ∧ U2 b qm w w' := by
  have hlt := h.lt
  obtain ⟨s_, t_, M0, OL0, OD0⟩ := hM
  have hqm := M0.lt
  have hqb : w.heap.size ≠ b := by omega
  go_enter Tryz.func101, Tryz.ntmps101
  go_upto_region 9 with fail
  obtain ⟨w1, hw1⟩ : ∃ w1, w1 = w.alloc (.cells #[.pointer (some ⟨b, 0, none⟩)] 157) := ⟨_, rfl⟩
  rw [← hw1]
  have hb01 : Below w.heap.size w w1 := by rw [hw1]; exact (Below.refl _ _).alloc (Nat.le_refl _) _
  have B1 : Bx w1 w.heap.size [.pointer (some ⟨b, 0, none⟩)] := by rw [hw1]; exact Bx.new w [.pointer (some ⟨b, 0, none⟩)] _
  have hR1 := h.later hb01
  have M1 := M0.bel hb01
  have OL1 := OL0.far (Upd.of_below (S := fun _ => False) hb01) (fun _ _ => id)
  have OD1 := OD0.far (Upd.of_below (S := fun _ => False) hb01) (fun _ _ => id)
  have hB1lt := B1.lt
  clear hw1
  refine wp_region_lit ?_
  refine vl_gen (fun T => T.size = 87 ∧ T[1]? = some (gw true (.pointer (some ⟨qm, 0, none⟩))) ∧ T[3]? = some (gw true (.int .u8 q)) ∧ T[4]? = some (gw true (.pointer (some ⟨w.heap.size, 0, none⟩)))) ⟨rfl, rfl, rfl, rfl⟩ (fun T0 ⟨hz, s1, s3, s4⟩ => ?_)
  refine vt _ (ex_move rfl (ev s1 rfl)) hz (fun A_1 zz kk s32 => ?_)
  replace s1 := ku s1
  replace s3 := ku s3
  replace s4 := ku s4
  replace hz := zz
  clear kk zz
  refine vt (.agg #[.pointer (some ⟨b, 0, none⟩)]) (ex_ld rfl (ev s4 rfl) (ldRd (B1.cell 0 _ rfl))) hz (fun A_2 zz kk s33 => ?_)
  replace s1 := ku s1
  replace s3 := ku s3
  replace s4 := ku s4
  replace s32 := ku s32
  replace hz := zz
  clear kk zz A_1
  refine vcallP (want_none rfl) (ex_call rfl (by simp only [List.map_toArray, List.map_cons, List.map_nil, (ev s33 rfl), evc] <;> rfl) rfl) (rnumber_any N b l x.s w1 hR1) rfl hz (by decide) ?_
  rintro e w2 ⟨rfl, hR2, hu2⟩
  refine ⟨_, rfl, fun A_3 zz kk s34 => ?_⟩
  have B2 := B1.ub hu2 hqb
  have M2 := M1.upd hu2 (by omega)
  have OL2 := OL1.far hu2 (fun k hk => by omega)
  have OD2 := OD1.far hu2 (fun k hk => by omega)
  replace s1 := ku s1
  replace s3 := ku s3
  replace s4 := ku s4
  replace s32 := ku s32
  replace hz := zz
  clear kk zz s33 A_2
  refine vt (.pointer (some ⟨qm, 0, none⟩)) (ex_nil rfl (ev s32 rfl)) hz (fun A_4 zz kk s35 => ?_)
  replace s1 := ku s1
  replace s3 := ku s3
  replace s4 := ku s4
  replace s34 := ku s34
  replace hz := zz
  clear kk zz s32 A_3
  refine vt (.pointer (some ⟨qm, 11, none⟩)) (ex_fa rfl (ev s35 rfl) (MBox.faPlace _ _)) hz (fun A_5 zz kk s36 => ?_)
  replace s1 := ku s1
  replace s3 := ku s3
  replace s4 := ku s4
  replace s34 := ku s34
  replace hz := zz
  clear kk zz s35 A_4
  refine vs (sets w2 qm 11 [.int .i64 (rI mxI l x.s : Int)]) (want_none rfl) (ex_st rfl (ev s36 rfl) (ev s34 rfl) (stInt _ (M2.cell 11 _ rfl) (M2.free 11))) rfl ?_
  have SP3 := M2.splice 11 [.int .i64 (rI mxI l x.s : Int)] { x.m with p := (rI mxI l x.s : Int) } s_ t_ (by show _ + _ ≤ 18; simp) rfl
  obtain ⟨w3, hw3⟩ : ∃ y, y = sets w2 qm 11 [.int .i64 (rI mxI l x.s : Int)] := ⟨_, rfl⟩
  rw [← hw3] at SP3 ⊢
  clear hw3
  have M3 := SP3.1
  have hR3 := hR2.ub SP3.2 (fun k hk => by omega)
  have B3 := B2.ub SP3.2 (by omega)
  have OL3 := OL2.far SP3.2 (fun k hk => by omega)
  have OD3 := OD2.far SP3.2 (fun k hk => by omega)
  refine wpList_nil ?_
  go_wp2
  go_end0
  exact ⟨rfl, ⟨_, _, M3, OL3, OD3⟩, hR3, (U2.b (UB.of_below hb01)).trans ((U2.b hu2).trans (U2.q SP3.2))⟩
set_option maxHeartbeats 4000000 in
theorem rfield_4 (N b qm : Nat) (l : List Int) (x : Rst) (q : Int) (w : World) (hN : N ≤ qm) (hM : MS w qm x.m x.L x.D) (h : RD N w b l x.s) : Calls Tryz.prog 101 #[.agg #[.pointer (some ⟨b, 0, none⟩)], .pointer (some ⟨qm, 0, none⟩), .int .i64 4, .int .u8 q] w fun e w' => e = .returned (.tuple #[]) ∧ MS w' qm (rCol l x 4 (!decide (q = 15))).m (rCol l x 4 (!decide (q = 15))).L (rCol l x 4 (!decide (q = 15))).D ∧ RD N w' b l (rCol l x 4 (!decide (q = 15))).s ∧ U2 b qm w w' := by
  have hlt := h.lt
  obtain ⟨s_, t_, M0, OL0, OD0⟩ := hM
  have hqm := M0.lt
  have hqb : w.heap.size ≠ b := by omega
  go_enter Tryz.func101, Tryz.ntmps101
  go_upto_region 11 with fail
  obtain ⟨w1, hw1⟩ : ∃ w1, w1 = w.alloc (.cells #[.pointer (some ⟨b, 0, none⟩)] 157) := ⟨_, rfl⟩
  rw [← hw1]
  have hb01 : Below w.heap.size w w1 := by rw [hw1]; exact (Below.refl _ _).alloc (Nat.le_refl _) _
  have B1 : Bx w1 w.heap.size [.pointer (some ⟨b, 0, none⟩)] := by rw [hw1]; exact Bx.new w [.pointer (some ⟨b, 0, none⟩)] _
  have hR1 := h.later hb01
  have M1 := M0.bel hb01
  have OL1 := OL0.far (Upd.of_below (S := fun _ => False) hb01) (fun _ _ => id)
  have OD1 := OD0.far (Upd.of_below (S := fun _ => False) hb01) (fun _ _ => id)
  have hB1lt := B1.lt
  clear hw1
  refine wp_region_lit ?_
  refine vl_gen (fun T => T.size = 87 ∧ T[1]? = some (gw true (.pointer (some ⟨qm, 0, none⟩))) ∧ T[3]? = some (gw true (.int .u8 q)) ∧ T[4]? = some (gw true (.pointer (some ⟨w.heap.size, 0, none⟩)))) ⟨rfl, rfl, rfl, rfl⟩ (fun T0 ⟨hz, s1, s3, s4⟩ => ?_)
  refine vt _ (ex_move rfl (ev s1 rfl)) hz (fun A_1 zz kk s39 => ?_)
  replace s1 := ku s1
  replace s3 := ku s3
  replace s4 := ku s4
  replace hz := zz
  clear kk zz
  refine vt (.agg #[.pointer (some ⟨b, 0, none⟩)]) (ex_ld rfl (ev s4 rfl) (ldRd (B1.cell 0 _ rfl))) hz (fun A_2 zz kk s40 => ?_)
  replace s1 := ku s1
  replace s3 := ku s3
  replace s4 := ku s4
  replace s39 := ku s39
  replace hz := zz
  clear kk zz A_1
  refine vcallP (want_none rfl) (ex_call rfl (by simp only [List.map_toArray, List.map_cons, List.map_nil, (ev s40 rfl), evc] <;> rfl) rfl) (rnumber_any N b l x.s w1 hR1) rfl hz (by decide) ?_
  rintro e w2 ⟨rfl, hR2, hu2⟩
  refine ⟨_, rfl, fun A_3 zz kk s41 => ?_⟩
  have B2 := B1.ub hu2 hqb
  have M2 := M1.upd hu2 (by omega)
  have OL2 := OL1.far hu2 (fun k hk => by omega)
  have OD2 := OD1.far hu2 (fun k hk => by omega)
  replace s1 := ku s1
  replace s3 := ku s3
  replace s4 := ku s4
  replace s39 := ku s39
  replace hz := zz
  clear kk zz s40 A_2
  refine vt (.pointer (some ⟨qm, 0, none⟩)) (ex_nil rfl (ev s39 rfl)) hz (fun A_4 zz kk s42 => ?_)
  replace s1 := ku s1
  replace s3 := ku s3
  replace s4 := ku s4
  replace s41 := ku s41
  replace hz := zz
  clear kk zz s39 A_3
  refine vt (.pointer (some ⟨qm, 12, none⟩)) (ex_fa rfl (ev s42 rfl) (MBox.faCommit _ _)) hz (fun A_5 zz kk s43 => ?_)
  replace s1 := ku s1
  replace s3 := ku s3
  replace s4 := ku s4
  replace s41 := ku s41
  replace hz := zz
  clear kk zz s42 A_4
  refine vs (sets w2 qm 12 [.int .i64 (rI mxI l x.s : Int)]) (want_none rfl) (ex_st rfl (ev s43 rfl) (ev s41 rfl) (stInt _ (M2.cell 12 _ rfl) (M2.free 12))) rfl ?_
  have SP3 := M2.splice 12 [.int .i64 (rI mxI l x.s : Int)] { x.m with cm := (rI mxI l x.s : Int) } s_ t_ (by show _ + _ ≤ 18; simp) rfl
  obtain ⟨w3, hw3⟩ : ∃ y, y = sets w2 qm 12 [.int .i64 (rI mxI l x.s : Int)] := ⟨_, rfl⟩
  rw [← hw3] at SP3 ⊢
  clear hw3
  have M3 := SP3.1
  have hR3 := hR2.ub SP3.2 (fun k hk => by omega)
  have B3 := B2.ub SP3.2 (by omega)
  have OL3 := OL2.far SP3.2 (fun k hk => by omega)
  have OD3 := OD2.far SP3.2 (fun k hk => by omega)
  refine wpList_nil ?_
  go_wp2
  go_end0
  exact ⟨rfl, ⟨_, _, M3, OL3, OD3⟩, hR3, (U2.b (UB.of_below hb01)).trans ((U2.b hu2).trans (U2.q SP3.2))⟩
set_option maxHeartbeats 4000000 in
theorem rfield_5 (N b qm : Nat) (l : List Int) (x : Rst) (q : Int) (w : World) (hN : N ≤ qm) (hM : MS w qm x.m x.L x.D) (h : RD N w b l x.s) : Calls Tryz.prog 101 #[.agg #[.pointer (some ⟨b, 0, none⟩)], .pointer (some ⟨qm, 0, none⟩), .int .i64 5, .int .u8 q] w fun e w' => e = .returned (.tuple #[]) ∧ MS w' qm (rCol l x 5 (!decide (q = 15))).m (rCol l x 5 (!decide (q = 15))).L (rCol l x 5 (!decide (q = 15))).D ∧ RD N w' b l (rCol l x 5 (!decide (q = 15))).s ∧ U2 b qm w w' := by
  have hlt := h.lt
  obtain ⟨s_, t_, M0, OL0, OD0⟩ := hM
  have hqm := M0.lt
  have hqb : w.heap.size ≠ b := by omega
  go_enter Tryz.func101, Tryz.ntmps101
  go_upto_region 13 with fail
  obtain ⟨w1, hw1⟩ : ∃ w1, w1 = w.alloc (.cells #[.pointer (some ⟨b, 0, none⟩)] 157) := ⟨_, rfl⟩
  rw [← hw1]
  have hb01 : Below w.heap.size w w1 := by rw [hw1]; exact (Below.refl _ _).alloc (Nat.le_refl _) _
  have B1 : Bx w1 w.heap.size [.pointer (some ⟨b, 0, none⟩)] := by rw [hw1]; exact Bx.new w [.pointer (some ⟨b, 0, none⟩)] _
  have hR1 := h.later hb01
  have M1 := M0.bel hb01
  have OL1 := OL0.far (Upd.of_below (S := fun _ => False) hb01) (fun _ _ => id)
  have OD1 := OD0.far (Upd.of_below (S := fun _ => False) hb01) (fun _ _ => id)
  have hB1lt := B1.lt
  clear hw1
  refine wp_region_lit ?_
  refine vl_gen (fun T => T.size = 87 ∧ T[1]? = some (gw true (.pointer (some ⟨qm, 0, none⟩))) ∧ T[3]? = some (gw true (.int .u8 q)) ∧ T[4]? = some (gw true (.pointer (some ⟨w.heap.size, 0, none⟩)))) ⟨rfl, rfl, rfl, rfl⟩ (fun T0 ⟨hz, s1, s3, s4⟩ => ?_)
  refine vt _ (ex_move rfl (ev s1 rfl)) hz (fun A_1 zz kk s46 => ?_)
  replace s1 := ku s1
  replace s3 := ku s3
  replace s4 := ku s4
  replace hz := zz
  clear kk zz
  refine vt (.agg #[.pointer (some ⟨b, 0, none⟩)]) (ex_ld rfl (ev s4 rfl) (ldRd (B1.cell 0 _ rfl))) hz (fun A_2 zz kk s47 => ?_)
  replace s1 := ku s1
  replace s3 := ku s3
  replace s4 := ku s4
  replace s46 := ku s46
  replace hz := zz
  clear kk zz A_1
  refine vcallP (want_none rfl) (ex_call rfl (by simp only [List.map_toArray, List.map_cons, List.map_nil, (ev s47 rfl), evc] <;> rfl) rfl) (rdraw_any N b l x.s w1 hR1) rfl hz (by decide) ?_
  rintro e w2 ⟨rfl, hR2, hu2⟩
  refine ⟨_, rfl, fun A_3 zz kk s48 => ?_⟩
  have B2 := B1.ub hu2 hqb
  have M2 := M1.upd hu2 (by omega)
  have OL2 := OL1.far hu2 (fun k hk => by omega)
  have OD2 := OD1.far hu2 (fun k hk => by omega)
  replace s1 := ku s1
  replace s3 := ku s3
  replace s4 := ku s4
  replace s46 := ku s46
  replace hz := zz
  clear kk zz s47 A_2
  refine vt (.pointer (some ⟨qm, 0, none⟩)) (ex_nil rfl (ev s46 rfl)) hz (fun A_4 zz kk s49 => ?_)
  replace s1 := ku s1
  replace s3 := ku s3
  replace s4 := ku s4
  replace s48 := ku s48
  replace hz := zz
  clear kk zz s46 A_3
  refine vt (.pointer (some ⟨qm, 14, none⟩)) (ex_fa rfl (ev s49 rfl) (MBox.faDraw _ _)) hz (fun A_5 zz kk s50 => ?_)
  replace s1 := ku s1
  replace s3 := ku s3
  replace s4 := ku s4
  replace s48 := ku s48
  replace hz := zz
  clear kk zz s49 A_4
  refine vs (sets w2 qm 14 [.int .u64 (rD l x.s).1, .int .u64 (rD l x.s).2]) (want_none rfl) (ex_st rfl (ev s50 rfl) (ev s48 rfl) (M2.stAt 33 14 [.int .u64 (rD l x.s).1, .int .u64 (rD l x.s).2] (by show 14 + 2 ≤ 18; omega) (by kernel_rfl) (by kernel_rfl))) rfl ?_
  have SP3 := M2.splice 14 [.int .u64 (rD l x.s).1, .int .u64 (rD l x.s).2] { x.m with d := rD l x.s } s_ t_ (by show _ + _ ≤ 18; simp) rfl
  obtain ⟨w3, hw3⟩ : ∃ y, y = sets w2 qm 14 [.int .u64 (rD l x.s).1, .int .u64 (rD l x.s).2] := ⟨_, rfl⟩
  rw [← hw3] at SP3 ⊢
  clear hw3
  have M3 := SP3.1
  have hR3 := hR2.ub SP3.2 (fun k hk => by omega)
  have B3 := B2.ub SP3.2 (by omega)
  have OL3 := OL2.far SP3.2 (fun k hk => by omega)
  have OD3 := OD2.far SP3.2 (fun k hk => by omega)
  refine wpList_nil ?_
  go_wp2
  go_end0
  exact ⟨rfl, ⟨_, _, M3, OL3, OD3⟩, hR3, (U2.b (UB.of_below hb01)).trans ((U2.b hu2).trans (U2.q SP3.2))⟩
set_option maxHeartbeats 4000000 in
theorem rfield_6 (N b qm : Nat) (l : List Int) (x : Rst) (q : Int) (w : World) (hN : N ≤ qm) (hM : MS w qm x.m x.L x.D) (h : RD N w b l x.s) : Calls Tryz.prog 101 #[.agg #[.pointer (some ⟨b, 0, none⟩)], .pointer (some ⟨qm, 0, none⟩), .int .i64 6, .int .u8 q] w fun e w' => e = .returned (.tuple #[]) ∧ MS w' qm (rCol l x 6 (!decide (q = 15))).m (rCol l x 6 (!decide (q = 15))).L (rCol l x 6 (!decide (q = 15))).D ∧ RD N w' b l (rCol l x 6 (!decide (q = 15))).s ∧ U2 b qm w w' := by
  have hlt := h.lt
  obtain ⟨s_, t_, M0, OL0, OD0⟩ := hM
  have hqm := M0.lt
  have hqb : w.heap.size ≠ b := by omega
  go_enter Tryz.func101, Tryz.ntmps101
  go_upto_region 15 with fail
  obtain ⟨w1, hw1⟩ : ∃ w1, w1 = w.alloc (.cells #[.pointer (some ⟨b, 0, none⟩)] 157) := ⟨_, rfl⟩
  rw [← hw1]
  have hb01 : Below w.heap.size w w1 := by rw [hw1]; exact (Below.refl _ _).alloc (Nat.le_refl _) _
  have B1 : Bx w1 w.heap.size [.pointer (some ⟨b, 0, none⟩)] := by rw [hw1]; exact Bx.new w [.pointer (some ⟨b, 0, none⟩)] _
  have hR1 := h.later hb01
  have M1 := M0.bel hb01
  have OL1 := OL0.far (Upd.of_below (S := fun _ => False) hb01) (fun _ _ => id)
  have OD1 := OD0.far (Upd.of_below (S := fun _ => False) hb01) (fun _ _ => id)
  have hB1lt := B1.lt
  clear hw1
  refine wp_region_lit ?_
  refine vl_gen (fun T => T.size = 87 ∧ T[1]? = some (gw true (.pointer (some ⟨qm, 0, none⟩))) ∧ T[3]? = some (gw true (.int .u8 q)) ∧ T[4]? = some (gw true (.pointer (some ⟨w.heap.size, 0, none⟩)))) ⟨rfl, rfl, rfl, rfl⟩ (fun T0 ⟨hz, s1, s3, s4⟩ => ?_)
  refine vt _ (ex_move rfl (ev s1 rfl)) hz (fun A_1 zz kk s53 => ?_)
  replace s1 := ku s1
  replace s3 := ku s3
  replace s4 := ku s4
  replace hz := zz
  clear kk zz
  refine vt (.agg #[.pointer (some ⟨b, 0, none⟩)]) (ex_ld rfl (ev s4 rfl) (ldRd (B1.cell 0 _ rfl))) hz (fun A_2 zz kk s54 => ?_)
  replace s1 := ku s1
  replace s3 := ku s3
  replace s4 := ku s4
  replace s53 := ku s53
  replace hz := zz
  clear kk zz A_1
  refine vcallP (want_none rfl) (ex_call rfl (by simp only [List.map_toArray, List.map_cons, List.map_nil, (ev s54 rfl), evc] <;> rfl) rfl) (rname_any N b l x.s w1 hR1) rfl hz (by decide) ?_
  rintro e w2 ⟨rfl, hR2, hu2⟩
  refine ⟨_, rfl, fun A_3 zz kk s55 => ?_⟩
  have B2 := B1.ub hu2 hqb
  have M2 := M1.upd hu2 (by omega)
  have OL2 := OL1.far hu2 (fun k hk => by omega)
  have OD2 := OD1.far hu2 (fun k hk => by omega)
  replace s1 := ku s1
  replace s3 := ku s3
  replace s4 := ku s4
  replace s53 := ku s53
  replace hz := zz
  clear kk zz s54 A_2
  refine vt (.pointer (some ⟨qm, 0, none⟩)) (ex_nil rfl (ev s53 rfl)) hz (fun A_4 zz kk s56 => ?_)
  replace s1 := ku s1
  replace s3 := ku s3
  replace s4 := ku s4
  replace s55 := ku s55
  replace hz := zz
  clear kk zz s53 A_3
  refine vt (.pointer (some ⟨qm, 3, none⟩)) (ex_fa rfl (ev s56 rfl) (MBox.faEntry _ _)) hz (fun A_5 zz kk s57 => ?_)
  replace s1 := ku s1
  replace s3 := ku s3
  replace s4 := ku s4
  replace s55 := ku s55
  replace hz := zz
  clear kk zz s56 A_4
  refine vs (sets w2 qm 3 [.int .i64 (rI mxI l x.s : Int), .int .i64 (rI mxI l (sI mxI l x.s) : Int), .int .i64 0, .int .i64 0, .string ⟨#[]⟩]) (want_none rfl) (ex_st rfl (ev s57 rfl) (ev s55 rfl) (M2.stAt 28 3 [.int .i64 (rI mxI l x.s : Int), .int .i64 (rI mxI l (sI mxI l x.s) : Int), .int .i64 0, .int .i64 0, .string ⟨#[]⟩] (by show 3 + 5 ≤ 18; omega) (by kernel_rfl) (by kernel_rfl))) rfl ?_
  have SP3 := M2.splice 3 [.int .i64 (rI mxI l x.s : Int), .int .i64 (rI mxI l (sI mxI l x.s) : Int), .int .i64 0, .int .i64 0, .string ⟨#[]⟩] { x.m with e := ⟨(rI mxI l x.s : Int), (rI mxI l (sI mxI l x.s) : Int), ⟨0, 0, ⟨#[]⟩⟩⟩ } s_ t_ (by show _ + _ ≤ 18; simp) rfl
  obtain ⟨w3, hw3⟩ : ∃ y, y = sets w2 qm 3 [.int .i64 (rI mxI l x.s : Int), .int .i64 (rI mxI l (sI mxI l x.s) : Int), .int .i64 0, .int .i64 0, .string ⟨#[]⟩] := ⟨_, rfl⟩
  rw [← hw3] at SP3 ⊢
  clear hw3
  have M3 := SP3.1
  have hR3 := hR2.ub SP3.2 (fun k hk => by omega)
  have B3 := B2.ub SP3.2 (by omega)
  have OL3 := OL2.far SP3.2 (fun k hk => by omega)
  have OD3 := OD2.far SP3.2 (fun k hk => by omega)
  refine wpList_nil ?_
  go_upto_region 16 with fail
  refine wp_region_lit ?_
  refine vt _ (ex_move rfl (ev s3 rfl)) hz (fun C_1 zz kk s58 => ?_)
  replace s1 := ku s1
  replace s3 := ku s3
  replace s4 := ku s4
  replace hz := zz
  clear kk zz s55 s57
  refine vt (.bool (!decide (q = 15))) (ex_bin rfl (ev s58 rfl) rfl (neqU8 _ _ _ _ _)) hz (fun C_2 zz kk s59 => ?_)
  replace s1 := ku s1
  replace s3 := ku s3
  replace s4 := ku s4
  replace hz := zz
  clear kk zz s58 C_1
  refine wpList_nil ?_
  go_upto_region 17 with fail
  cases e6 : !decide (q = 15)
  · refine wp_cond_false ((ev s59 rfl).trans (congrArg Value.bool e6)) ?_
    go_wp2
    go_end0
    try rw [e6]
    exact ⟨rfl, ⟨_, _, M3, OL3, OD3⟩, hR3, (U2.b (UB.of_below hb01)).trans ((U2.b hu2).trans (U2.q SP3.2))⟩
  refine wp_cond_true ((ev s59 rfl).trans (congrArg Value.bool e6)) ?_
  go_upto_region 17 with fail
  refine wp_region_lit ?_
  refine vt _ (ex_move rfl (ev s1 rfl)) hz (fun D_1 zz kk s60 => ?_)
  replace s1 := ku s1
  replace s4 := ku s4
  replace hz := zz
  clear kk zz s3 s59
  refine vt (.agg #[.pointer (some ⟨b, 0, none⟩)]) (ex_ld rfl (ev s4 rfl) (ldRd (B3.cell 0 _ rfl))) hz (fun D_2 zz kk s61 => ?_)
  replace s1 := ku s1
  replace s60 := ku s60
  replace hz := zz
  clear kk zz s4 D_1
  refine vcallP (want_none rfl) (ex_call rfl (by simp only [List.map_toArray, List.map_cons, List.map_nil, (ev s61 rfl), evc] <;> rfl) rfl) (rop_any N b l (s2 l x.s) w3 hR3) rfl hz (by decide) ?_
  rintro e w4 ⟨rfl, hR4, hu4⟩
  refine ⟨_, rfl, fun D_3 zz kk s62 => ?_⟩
  have B4 := B3.ub hu4 hqb
  have M4 := M3.upd hu4 (by omega)
  have OL4 := OL3.far hu4 (fun k hk => by omega)
  have OD4 := OD3.far hu4 (fun k hk => by omega)
  replace s1 := ku s1
  replace s60 := ku s60
  replace hz := zz
  clear kk zz s61 D_2
  refine vt (.pointer (some ⟨qm, 0, none⟩)) (ex_nil rfl (ev s60 rfl)) hz (fun D_4 zz kk s63 => ?_)
  replace s1 := ku s1
  replace s62 := ku s62
  replace hz := zz
  clear kk zz s60 D_3
  refine vt (.pointer (some ⟨qm, 3, none⟩)) (ex_fa rfl (ev s63 rfl) (MBox.faEntry _ _)) hz (fun D_5 zz kk s64 => ?_)
  replace s1 := ku s1
  replace s62 := ku s62
  replace hz := zz
  clear kk zz s63 D_4
  refine vt (.pointer (some ⟨qm, 5, none⟩)) (ex_fa rfl (ev s64 rfl) (MBox.faOp _ _)) hz (fun D_6 zz kk s65 => ?_)
  replace s1 := ku s1
  replace s62 := ku s62
  replace hz := zz
  clear kk zz s64 D_5
  refine vs (sets w4 qm 5 [.int .i64 (rO l (s2 l x.s)).k, .int .i64 (rO l (s2 l x.s)).s, .string (rO l (s2 l x.s)).v]) (want_none rfl) (ex_st rfl (ev s65 rfl) (ev s62 rfl) (M4.stAt 26 5 [.int .i64 (rO l (s2 l x.s)).k, .int .i64 (rO l (s2 l x.s)).s, .string (rO l (s2 l x.s)).v] (by show 5 + 3 ≤ 18; omega) (by kernel_rfl) (by kernel_rfl))) rfl ?_
  have SP5 := M4.splice 5 [.int .i64 (rO l (s2 l x.s)).k, .int .i64 (rO l (s2 l x.s)).s, .string (rO l (s2 l x.s)).v] { x.m with e := rE l x.s } s_ t_ (by show _ + _ ≤ 18; simp) rfl
  obtain ⟨w5, hw5⟩ : ∃ y, y = sets w4 qm 5 [.int .i64 (rO l (s2 l x.s)).k, .int .i64 (rO l (s2 l x.s)).s, .string (rO l (s2 l x.s)).v] := ⟨_, rfl⟩
  rw [← hw5] at SP5 ⊢
  clear hw5
  have M5 := SP5.1
  have hR5 := hR4.ub SP5.2 (fun k hk => by omega)
  have B5 := B4.ub SP5.2 (by omega)
  have OL5 := OL4.far SP5.2 (fun k hk => by omega)
  have OD5 := OD4.far SP5.2 (fun k hk => by omega)
  refine wpList_nil ?_
  go_wp2
  go_end0
  try rw [e6]
  exact ⟨rfl, ⟨_, _, M5, OL5, OD5⟩, hR5, (U2.b (UB.of_below hb01)).trans (((U2.b hu2).trans (U2.q SP3.2)).trans ((U2.b hu4).trans (U2.q SP5.2)))⟩
set_option maxHeartbeats 4000000 in
theorem rfield_7 (N b qm : Nat) (l : List Int) (x : Rst) (q : Int) (w : World) (hN : N ≤ qm) (hM : MS w qm x.m x.L x.D) (h : RD N w b l x.s) : Calls Tryz.prog 101 #[.agg #[.pointer (some ⟨b, 0, none⟩)], .pointer (some ⟨qm, 0, none⟩), .int .i64 7, .int .u8 q] w fun e w' => e = .returned (.tuple #[]) ∧ MS w' qm (rCol l x 7 (!decide (q = 15))).m (rCol l x 7 (!decide (q = 15))).L (rCol l x 7 (!decide (q = 15))).D ∧ RD N w' b l (rCol l x 7 (!decide (q = 15))).s ∧ U2 b qm w w' := by
  have hlt := h.lt
  obtain ⟨s_, t_, M0, OL0, OD0⟩ := hM
  have hqm := M0.lt
  have hqb : w.heap.size ≠ b := by omega
  go_enter Tryz.func101, Tryz.ntmps101
  go_upto_region 19 with fail
  obtain ⟨w1, hw1⟩ : ∃ w1, w1 = w.alloc (.cells #[.pointer (some ⟨b, 0, none⟩)] 157) := ⟨_, rfl⟩
  rw [← hw1]
  have hb01 : Below w.heap.size w w1 := by rw [hw1]; exact (Below.refl _ _).alloc (Nat.le_refl _) _
  have B1 : Bx w1 w.heap.size [.pointer (some ⟨b, 0, none⟩)] := by rw [hw1]; exact Bx.new w [.pointer (some ⟨b, 0, none⟩)] _
  have hR1 := h.later hb01
  have M1 := M0.bel hb01
  have OL1 := OL0.far (Upd.of_below (S := fun _ => False) hb01) (fun _ _ => id)
  have OD1 := OD0.far (Upd.of_below (S := fun _ => False) hb01) (fun _ _ => id)
  have hB1lt := B1.lt
  clear hw1
  refine wp_region_lit ?_
  refine vl_gen (fun T => T.size = 87 ∧ T[1]? = some (gw true (.pointer (some ⟨qm, 0, none⟩))) ∧ T[3]? = some (gw true (.int .u8 q)) ∧ T[4]? = some (gw true (.pointer (some ⟨w.heap.size, 0, none⟩)))) ⟨rfl, rfl, rfl, rfl⟩ (fun T0 ⟨hz, s1, s3, s4⟩ => ?_)
  refine vt _ (ex_move rfl (ev s1 rfl)) hz (fun A_1 zz kk s68 => ?_)
  replace s1 := ku s1
  replace s3 := ku s3
  replace s4 := ku s4
  replace hz := zz
  clear kk zz
  refine vt (.agg #[.pointer (some ⟨b, 0, none⟩)]) (ex_ld rfl (ev s4 rfl) (ldRd (B1.cell 0 _ rfl))) hz (fun A_2 zz kk s69 => ?_)
  replace s1 := ku s1
  replace s3 := ku s3
  replace s4 := ku s4
  replace s68 := ku s68
  replace hz := zz
  clear kk zz A_1
  refine vcallP (want_none rfl) (ex_call rfl (by simp only [List.map_toArray, List.map_cons, List.map_nil, (ev s69 rfl), evc] <;> rfl) rfl) (rresult_any N b l x.s w1 hR1) rfl hz (by decide) ?_
  rintro e w2 ⟨rfl, hR2, hu2⟩
  refine ⟨_, rfl, fun A_3 zz kk s70 => ?_⟩
  have B2 := B1.ub hu2 hqb
  have M2 := M1.upd hu2 (by omega)
  have OL2 := OL1.far hu2 (fun k hk => by omega)
  have OD2 := OD1.far hu2 (fun k hk => by omega)
  replace s1 := ku s1
  replace s3 := ku s3
  replace s4 := ku s4
  replace s68 := ku s68
  replace hz := zz
  clear kk zz s69 A_2
  refine vt (.pointer (some ⟨qm, 0, none⟩)) (ex_nil rfl (ev s68 rfl)) hz (fun A_4 zz kk s71 => ?_)
  replace s1 := ku s1
  replace s3 := ku s3
  replace s4 := ku s4
  replace s70 := ku s70
  replace hz := zz
  clear kk zz s68 A_3
  refine vt (.pointer (some ⟨qm, 8, none⟩)) (ex_fa rfl (ev s71 rfl) (MBox.faResult _ _)) hz (fun A_5 zz kk s72 => ?_)
  replace s1 := ku s1
  replace s3 := ku s3
  replace s4 := ku s4
  replace s70 := ku s70
  replace hz := zz
  clear kk zz s71 A_4
  refine vs (sets w2 qm 8 [.int .i64 (rO l x.s).k, .int .i64 (rO l x.s).s, .string (rO l x.s).v]) (want_none rfl) (ex_st rfl (ev s72 rfl) (ev s70 rfl) (M2.stAt 30 8 [.int .i64 (rO l x.s).k, .int .i64 (rO l x.s).s, .string (rO l x.s).v] (by show 8 + 3 ≤ 18; omega) (by kernel_rfl) (by kernel_rfl))) rfl ?_
  have SP3 := M2.splice 8 [.int .i64 (rO l x.s).k, .int .i64 (rO l x.s).s, .string (rO l x.s).v] { x.m with r := ((rO l x.s).k, (rO l x.s).s, (rO l x.s).v) } s_ t_ (by show _ + _ ≤ 18; simp) rfl
  obtain ⟨w3, hw3⟩ : ∃ y, y = sets w2 qm 8 [.int .i64 (rO l x.s).k, .int .i64 (rO l x.s).s, .string (rO l x.s).v] := ⟨_, rfl⟩
  rw [← hw3] at SP3 ⊢
  clear hw3
  have M3 := SP3.1
  have hR3 := hR2.ub SP3.2 (fun k hk => by omega)
  have B3 := B2.ub SP3.2 (by omega)
  have OL3 := OL2.far SP3.2 (fun k hk => by omega)
  have OD3 := OD2.far SP3.2 (fun k hk => by omega)
  refine wpList_nil ?_
  go_wp2
  go_end0
  exact ⟨rfl, ⟨_, _, M3, OL3, OD3⟩, hR3, (U2.b (UB.of_below hb01)).trans ((U2.b hu2).trans (U2.q SP3.2))⟩
set_option maxHeartbeats 4000000 in
theorem rfield_8 (N b qm : Nat) (l : List Int) (x : Rst) (q : Int) (w : World) (hN : N ≤ qm) (hM : MS w qm x.m x.L x.D) (h : RD N w b l x.s) : Calls Tryz.prog 101 #[.agg #[.pointer (some ⟨b, 0, none⟩)], .pointer (some ⟨qm, 0, none⟩), .int .i64 8, .int .u8 q] w fun e w' => e = .returned (.tuple #[]) ∧ MS w' qm (rCol l x 8 (!decide (q = 15))).m (rCol l x 8 (!decide (q = 15))).L (rCol l x 8 (!decide (q = 15))).D ∧ RD N w' b l (rCol l x 8 (!decide (q = 15))).s ∧ U2 b qm w w' := by
  have hlt := h.lt
  obtain ⟨s_, t_, M0, OL0, OD0⟩ := hM
  have hqm := M0.lt
  have hqb : w.heap.size ≠ b := by omega
  go_enter Tryz.func101, Tryz.ntmps101
  go_upto_region 21 with fail
  obtain ⟨w1, hw1⟩ : ∃ w1, w1 = w.alloc (.cells #[.pointer (some ⟨b, 0, none⟩)] 157) := ⟨_, rfl⟩
  rw [← hw1]
  have hb01 : Below w.heap.size w w1 := by rw [hw1]; exact (Below.refl _ _).alloc (Nat.le_refl _) _
  have B1 : Bx w1 w.heap.size [.pointer (some ⟨b, 0, none⟩)] := by rw [hw1]; exact Bx.new w [.pointer (some ⟨b, 0, none⟩)] _
  have hR1 := h.later hb01
  have M1 := M0.bel hb01
  have OL1 := OL0.far (Upd.of_below (S := fun _ => False) hb01) (fun _ _ => id)
  have OD1 := OD0.far (Upd.of_below (S := fun _ => False) hb01) (fun _ _ => id)
  have hB1lt := B1.lt
  clear hw1
  refine wp_region_lit ?_
  refine vl_gen (fun T => T.size = 87 ∧ T[1]? = some (gw true (.pointer (some ⟨qm, 0, none⟩))) ∧ T[3]? = some (gw true (.int .u8 q)) ∧ T[4]? = some (gw true (.pointer (some ⟨w.heap.size, 0, none⟩)))) ⟨rfl, rfl, rfl, rfl⟩ (fun T0 ⟨hz, s1, s3, s4⟩ => ?_)
  refine vt _ (ex_move rfl (ev s1 rfl)) hz (fun A_1 zz kk s75 => ?_)
  replace s1 := ku s1
  replace s3 := ku s3
  replace s4 := ku s4
  replace hz := zz
  clear kk zz
  refine vt (.agg #[.pointer (some ⟨b, 0, none⟩)]) (ex_ld rfl (ev s4 rfl) (ldRd (B1.cell 0 _ rfl))) hz (fun A_2 zz kk s76 => ?_)
  replace s1 := ku s1
  replace s3 := ku s3
  replace s4 := ku s4
  replace s75 := ku s75
  replace hz := zz
  clear kk zz A_1
  refine vcallP (want_none rfl) (ex_call rfl (by simp only [List.map_toArray, List.map_cons, List.map_nil, (ev s76 rfl), evc] <;> rfl) rfl) (rlog_any N b l x.s w1 hR1) rfl hz (by decide) ?_
  rintro e w2 ⟨v2, rfl, O2, hR2, hu2⟩; obtain ⟨av, cv_, rfl, _⟩ := O2.form
  refine ⟨_, rfl, fun A_3 zz kk s77 => ?_⟩
  have B2 := B1.ub hu2 hqb
  have M2 := M1.upd hu2 (by omega)
  have OL2 := OL1.far hu2 (fun k hk => by omega)
  have OD2 := OD1.far hu2 (fun k hk => by omega)
  replace s1 := ku s1
  replace s3 := ku s3
  replace s4 := ku s4
  replace s75 := ku s75
  replace hz := zz
  clear kk zz s76 A_2
  refine vt (.pointer (some ⟨qm, 0, none⟩)) (ex_nil rfl (ev s75 rfl)) hz (fun A_4 zz kk s78 => ?_)
  replace s1 := ku s1
  replace s3 := ku s3
  replace s4 := ku s4
  replace s77 := ku s77
  replace hz := zz
  clear kk zz s75 A_3
  refine vt (.pointer (some ⟨qm, 16, none⟩)) (ex_fa rfl (ev s78 rfl) (MBox.faLog _ _)) hz (fun A_5 zz kk s79 => ?_)
  replace s1 := ku s1
  replace s3 := ku s3
  replace s4 := ku s4
  replace s77 := ku s77
  replace hz := zz
  clear kk zz s78 A_4
  refine vs (sets w2 qm 16 [.slice av (esL l (sI 256 l x.s) (rI 256 l x.s)).length cv_]) (want_none rfl) (ex_st rfl (ev s79 rfl) (ev s77 rfl) (stSlE _ _ _ (M2.cell 16 _ rfl) (M2.free 16))) rfl ?_
  have SP3 := M2.splice 16 [.slice av (esL l (sI 256 l x.s) (rI 256 l x.s)).length cv_] x.m (.slice av (esL l (sI 256 l x.s) (rI 256 l x.s)).length cv_) t_ (by show _ + _ ≤ 18; simp) rfl
  obtain ⟨w3, hw3⟩ : ∃ y, y = sets w2 qm 16 [.slice av (esL l (sI 256 l x.s) (rI 256 l x.s)).length cv_] := ⟨_, rfl⟩
  rw [← hw3] at SP3 ⊢
  clear hw3
  have M3 := SP3.1
  have hR3 := hR2.ub SP3.2 (fun k hk => by omega)
  have B3 := B2.ub SP3.2 (by omega)
  have OL3 := OL2.far SP3.2 (fun k hk => by omega)
  have OD3 := OD2.far SP3.2 (fun k hk => by omega)
  refine wpList_nil ?_
  go_wp2
  go_end0
  exact ⟨rfl, ⟨_, _, M3, ((O2.low (show qm + 1 ≤ w1.heap.size by omega)).far SP3.2 (fun k hk => by omega)), OD3⟩, hR3, (U2.b (UB.of_below hb01)).trans ((U2.b hu2).trans (U2.q SP3.2))⟩
set_option maxHeartbeats 4000000 in
theorem rfield_9 (N b qm : Nat) (l : List Int) (x : Rst) (q : Int) (w : World) (hN : N ≤ qm) (hM : MS w qm x.m x.L x.D) (h : RD N w b l x.s) : Calls Tryz.prog 101 #[.agg #[.pointer (some ⟨b, 0, none⟩)], .pointer (some ⟨qm, 0, none⟩), .int .i64 9, .int .u8 q] w fun e w' => e = .returned (.tuple #[]) ∧ MS w' qm (rCol l x 9 (!decide (q = 15))).m (rCol l x 9 (!decide (q = 15))).L (rCol l x 9 (!decide (q = 15))).D ∧ RD N w' b l (rCol l x 9 (!decide (q = 15))).s ∧ U2 b qm w w' := by
  have hlt := h.lt
  obtain ⟨s_, t_, M0, OL0, OD0⟩ := hM
  have hqm := M0.lt
  have hqb : w.heap.size ≠ b := by omega
  go_enter Tryz.func101, Tryz.ntmps101
  go_upto_region 23 with fail
  obtain ⟨w1, hw1⟩ : ∃ w1, w1 = w.alloc (.cells #[.pointer (some ⟨b, 0, none⟩)] 157) := ⟨_, rfl⟩
  rw [← hw1]
  have hb01 : Below w.heap.size w w1 := by rw [hw1]; exact (Below.refl _ _).alloc (Nat.le_refl _) _
  have B1 : Bx w1 w.heap.size [.pointer (some ⟨b, 0, none⟩)] := by rw [hw1]; exact Bx.new w [.pointer (some ⟨b, 0, none⟩)] _
  have hR1 := h.later hb01
  have M1 := M0.bel hb01
  have OL1 := OL0.far (Upd.of_below (S := fun _ => False) hb01) (fun _ _ => id)
  have OD1 := OD0.far (Upd.of_below (S := fun _ => False) hb01) (fun _ _ => id)
  have hB1lt := B1.lt
  clear hw1
  refine wp_region_lit ?_
  refine vl_gen (fun T => T.size = 87 ∧ T[1]? = some (gw true (.pointer (some ⟨qm, 0, none⟩))) ∧ T[3]? = some (gw true (.int .u8 q)) ∧ T[4]? = some (gw true (.pointer (some ⟨w.heap.size, 0, none⟩)))) ⟨rfl, rfl, rfl, rfl⟩ (fun T0 ⟨hz, s1, s3, s4⟩ => ?_)
  refine vt _ (ex_move rfl (ev s1 rfl)) hz (fun A_1 zz kk s82 => ?_)
  replace s1 := ku s1
  replace s3 := ku s3
  replace s4 := ku s4
  replace hz := zz
  clear kk zz
  refine vt (.agg #[.pointer (some ⟨b, 0, none⟩)]) (ex_ld rfl (ev s4 rfl) (ldRd (B1.cell 0 _ rfl))) hz (fun A_2 zz kk s83 => ?_)
  replace s1 := ku s1
  replace s3 := ku s3
  replace s4 := ku s4
  replace s82 := ku s82
  replace hz := zz
  clear kk zz A_1
  refine vcallP (want_none rfl) (ex_call rfl (by simp only [List.map_toArray, List.map_cons, List.map_nil, (ev s83 rfl), evc] <;> rfl) rfl) (rvector_any N b l x.s w1 hR1) rfl hz (by decide) ?_
  rintro e w2 ⟨v2, rfl, O2, hR2, hu2⟩; obtain ⟨av, cv_, rfl, _⟩ := O2.form
  refine ⟨_, rfl, fun A_3 zz kk s84 => ?_⟩
  have B2 := B1.ub hu2 hqb
  have M2 := M1.upd hu2 (by omega)
  have OL2 := OL1.far hu2 (fun k hk => by omega)
  have OD2 := OD1.far hu2 (fun k hk => by omega)
  replace s1 := ku s1
  replace s3 := ku s3
  replace s4 := ku s4
  replace s82 := ku s82
  replace hz := zz
  clear kk zz s83 A_2
  refine vt (.pointer (some ⟨qm, 0, none⟩)) (ex_nil rfl (ev s82 rfl)) hz (fun A_4 zz kk s85 => ?_)
  replace s1 := ku s1
  replace s3 := ku s3
  replace s4 := ku s4
  replace s84 := ku s84
  replace hz := zz
  clear kk zz s82 A_3
  refine vt (.pointer (some ⟨qm, 17, none⟩)) (ex_fa rfl (ev s85 rfl) (MBox.faVector _ _)) hz (fun A_5 zz kk s86 => ?_)
  replace s1 := ku s1
  replace s3 := ku s3
  replace s4 := ku s4
  replace s84 := ku s84
  replace hz := zz
  clear kk zz s85 A_4
  refine vs (sets w2 qm 17 [.slice av (dsL l (sI 7 l x.s) (rI 7 l x.s)).length cv_]) (want_none rfl) (ex_st rfl (ev s86 rfl) (ev s84 rfl) (stSlD _ _ _ (M2.cell 17 _ rfl) (M2.free 17))) rfl ?_
  have SP3 := M2.splice 17 [.slice av (dsL l (sI 7 l x.s) (rI 7 l x.s)).length cv_] x.m s_ (.slice av (dsL l (sI 7 l x.s) (rI 7 l x.s)).length cv_) (by show _ + _ ≤ 18; simp) rfl
  obtain ⟨w3, hw3⟩ : ∃ y, y = sets w2 qm 17 [.slice av (dsL l (sI 7 l x.s) (rI 7 l x.s)).length cv_] := ⟨_, rfl⟩
  rw [← hw3] at SP3 ⊢
  clear hw3
  have M3 := SP3.1
  have hR3 := hR2.ub SP3.2 (fun k hk => by omega)
  have B3 := B2.ub SP3.2 (by omega)
  have OL3 := OL2.far SP3.2 (fun k hk => by omega)
  have OD3 := OD2.far SP3.2 (fun k hk => by omega)
  refine wpList_nil ?_
  go_wp2
  go_end0
  exact ⟨rfl, ⟨_, _, M3, OL3, ((O2.low (show qm + 1 ≤ w1.heap.size by omega)).far SP3.2 (fun k hk => by omega))⟩, hR3, (U2.b (UB.of_below hb01)).trans ((U2.b hu2).trans (U2.q SP3.2))⟩
theorem rfield_all (N b qm : Nat) (l : List Int) (x : Rst) (j : Nat) (hj : j < 10) (q : Int) (w : World) (hN : N ≤ qm) (hM : MS w qm x.m x.L x.D) (h : RD N w b l x.s) : Calls Tryz.prog 101 #[.agg #[.pointer (some ⟨b, 0, none⟩)], .pointer (some ⟨qm, 0, none⟩), .int .i64 (j : Int), .int .u8 q] w fun e w' => e = .returned (.tuple #[]) ∧ MS w' qm (rCol l x j (!decide (q = 15))).m (rCol l x j (!decide (q = 15))).L (rCol l x j (!decide (q = 15))).D ∧ RD N w' b l (rCol l x j (!decide (q = 15))).s ∧ U2 b qm w w' := by
  match j, hj with
  | 0, _ => exact rfield_0 N b qm l x q w hN hM h
  | 1, _ => exact rfield_1 N b qm l x q w hN hM h
  | 2, _ => exact rfield_2 N b qm l x q w hN hM h
  | 3, _ => exact rfield_3 N b qm l x q w hN hM h
  | 4, _ => exact rfield_4 N b qm l x q w hN hM h
  | 5, _ => exact rfield_5 N b qm l x q w hN hM h
  | 6, _ => exact rfield_6 N b qm l x q w hN hM h
  | 7, _ => exact rfield_7 N b qm l x q w hN hM h
  | 8, _ => exact rfield_8 N b qm l x q w hN hM h
  | 9, _ => exact rfield_9 N b qm l x q w hN hM h
  | (k + 10), hk => exact absurd hk (by omega)
def zG : Mg := ⟨0, 0, 0, ⟨0, 0, ⟨0, 0, ⟨#[]⟩⟩⟩, (0, 0, ⟨#[]⟩), 0, 0, 0, (0, 0)⟩
def nilS : Value := .slice none 0 0
def rCols (l : List Int) (k : Nat) (x : Rst) : Nat → Rst
  | 0 => x
  | j + 1 => if tabA k j = 0 then rCols l k x j else rCol l (rCols l k x j) j (!decide ((tabA k j : Int) = 15))
def rdM (l : List Int) : Rst × Int :=
  if ¬ (sI mxI l (0, 0)).2 = 0 then (⟨zG, [], [], (0, 0)⟩, (sI mxI l (0, 0)).2)
  else if kdB (rI mxI l (0, 0) : Int) = false then (⟨zG, [], [], (0, 0)⟩, 70)
  else let x := rCols l (rI mxI l (0, 0)) ⟨{ zG with k := (rI mxI l (0, 0) : Int) }, [], [], sI mxI l (0, 0)⟩ 10
    (x, Wi.endErr l.length x.s.1 x.s.2)
theorem first_at (l : List Int) : (sI mxI l (0, 0)).1 = 0 ↔ ¬ (sI mxI l (0, 0)).2 = 0 := by
  show 0 + Wi.sel 0 (Wi.tcSize mxI (l.drop 0)) = 0 ↔ ¬ Wi.selE 0 (Wi.tcErr mxI (l.drop 0)) = 0
  rw [Wi.sel_ok, Wi.selE_ok, Nat.zero_add]
  unfold Wi.tcSize
  constructor
  · intro h h0
    rw [if_pos h0] at h
    unfold Wi.tcErr at h0
    have ht : Wi.tnErr (l.drop 0) = 0 := by
      split at h0
      · omega
      · split at h0
        · omega
        · rename_i h2; omega
    unfold Wi.tnSize at h
    rw [if_pos ht] at h
    omega
  · intro h
    rw [if_neg h]
theorem rd_At (N b : Nat) (l : List Int) (s : Nat × Int) (w : World) (h : RD N w b l s) : Calls Tryz.prog 99 #[.pointer (some ⟨b, 0, none⟩)] w fun e w' => e = .returned (.int .i64 (s.1 : Int)) ∧ w' = w := by
  obtain ⟨a, n, c, h, _⟩ := h
  exact Wi.rd_at b a n c l s.1 s.2 w h
theorem rd_End (N b : Nat) (l : List Int) (s : Nat × Int) (w : World) (h : RD N w b l s) : Calls Tryz.prog 100 #[.pointer (some ⟨b, 0, none⟩)] w fun e w' => e = .returned (.int .i64 (Wi.endErr l.length s.1 s.2)) ∧ Below w.heap.size w w' := by
  obtain ⟨a, n, c, h, _⟩ := h
  have := Wi.rd_end b a n c l s.1 s.2 w h
  rw [← h.hs.len] at this
  refine this.mono ?_
  rintro e w' ⟨rfl, k, rfl⟩
  exact ⟨rfl, belN (Below.refl _ _) k⟩
theorem alM (w : World) : (Instr.alloc 38 true (.tuple #[])).run Tryz.prog w = .ok (.pointer (some ⟨w.heap.size, 0, none⟩)) (w.alloc (.cells (zG.cs nilS nilS).toArray 38)) := by
  go_simp
  first | done | rfl
theorem bdM (k : Int) (w : World) : (Instr.build 38 #[(0, .int .i64 k)]).run Tryz.prog w = .ok (({ zG with k := k } : Mg).val nilS nilS) w := by
  go_simp
  first | done | rfl
theorem bdM0 (w : World) : (Instr.build 38 #[]).run Tryz.prog w = .ok (zG.val nilS nilS) w := by
  go_simp
  first | done | rfl
theorem bdRd (b : Nat) (w : World) : (Instr.build 157 #[(0, .pointer (some ⟨b, 0, none⟩))]).run Tryz.prog w = .ok (.agg #[.pointer (some ⟨b, 0, none⟩)]) w := by
  go_simp
theorem alRd (w : World) : (Instr.alloc 157 true (.tuple #[])).run Tryz.prog w = .ok (.pointer (some ⟨w.heap.size, 0, none⟩)) (w.alloc (.cells #[.pointer none] 157)) := by
  go_simp
theorem bodyPost_msg {fn : Func} {i u : Tmp} {q : Nat} {m : Mg} {s t V : Value} {T : Array Value} {w : World} {R : Ending → World → Prop} (h : fn.results = #[.cell i 38, .tmp u]) (hq : T[i]? = some (gw true (.pointer (some ⟨q, 0, none⟩)))) (hu : T[u]? = some (gw true V)) (hb : MBox w q m s t) (hR : R (.returned (.tuple #[m.val s t, V])) w) : bodyPost Tryz.prog fn R .ret ⟨T, []⟩ w := by
  refine bodyPost_ret (v := .tuple #[m.val s t, V]) ?_ rfl hR
  have hl := run_loadVar_mid (P := Tryz.prog) w q 0 38 (m.cs s t) _ (fun j v hv => by rw [Nat.zero_add]; exact hb.cell j v hv) Tryz.underlying38 rfl (by kernel_rfl)
  have hq' : T.getD i undef = .pointer (some ⟨q, 0, none⟩) := getD_of hq
  have hu' : T.getD u undef = V := getD_of hu
  rw [results_cell_tmp h]
  simp only [hq', hu', asAddr, Sem.run_pure, Result.andThen_ok, hl]
  rfl
theorem vh_store {ops : Array Oper} {o : Oper} {T : Array Value} {df : List Deferred} {w : World} {Q : Exit → Act → World → Prop} {S : World → Prop} {fuel : Nat} {listed : Array Bool} (i : Nat) (w' : World) (hi : ops[i]? = some o) (hr : Region.ready .any ops listed = [i])
    (hw : Region.wanted o (yielded ops T) = true) (he : (execOp (⟨T, df⟩ : Act).eval o).run Tryz.prog w = .ok .skip w') (hd : o.dst = none) (hS : S w')
    (hk : VH ops Q S fuel (listed.setIfInBounds i true) ⟨T, df⟩ w') : VH ops Q S (fuel + 1) listed ⟨T, df⟩ w := by
  refine ⟨wpAnyH_all hr (by simp) (fun j hj => ?_)⟩
  obtain rfl : j = i := by simpa using hj
  unfold wpOp
  rw [hi]
  simp only [hw, if_true]
  refine .inl ?_
  unfold Oper.wp
  rw [he, Oper.upon_skip]
  refine ⟨hS, ?_⟩
  rw [hd]
  exact hk.out
theorem MBox.new0 (w : World) : MBox (w.alloc (.cells (zG.cs nilS nilS).toArray 38)) w.heap.size zG nilS nilS := MBox.new w zG nilS nilS
theorem stM {w : World} {q : Nat} {m : Mg} {s t : Value} (h : MBox w q m s t) (m' : Mg) (s' t' : Value) (h1 : s'.oneCell' = true) (h2 : t'.oneCell' = true) : (Instr.storeAt 38 (.pointer (some ⟨q, 0, none⟩)) (m'.val s' t')).run Tryz.prog w = .ok () (sets w q 0 (m'.cs s' t')) := run_storeM h m' s' t' h1 h2
theorem MBox.putU {w : World} {q : Nat} {m : Mg} {s t : Value} (h : MBox w q m s t) (m' : Mg) (s' t' : Value) : MBox (sets w q 0 (m'.cs s' t')) q m' s' t' ∧ UB q w (sets w q 0 (m'.cs s' t')) := ⟨h.put m' s' t', upd_sets (S := fun b => b = q) (b := q) rfl _ _ _ (Upd.refl _ _)⟩
theorem eqlKd (x y : Operand) (a b : Int) (w : World) : (do eqGuard .eql 3 x y (.int .i64 a) (.int .i64 b); binOp .eql 3 (.int .i64 a) (.int .i64 b) : Sem Value).run Tryz.prog w = .ok (.bool (decide (a = b))) w := eqlC x y a b w
theorem rCols_none {l : List Int} {k j : Nat} {x : Rst} (h : tabA k j = 0) : rCols l k x (j + 1) = rCols l k x j := by
  show (if _ then _ else _) = _
  rw [if_pos h]
theorem rCols_some {l : List Int} {k j : Nat} {x : Rst} (h : ¬ tabA k j = 0) : rCols l k x (j + 1) = rCol l (rCols l k x j) j (!decide ((tabA k j : Int) = 15)) := by
  show (if _ then _ else _) = _
  rw [if_neg h]
theorem cell_lt {w : World} {x : Addr} {v : Value} (h : w.cell? (x.add 0) = some v) : x.block < w.heap.size := by
  by_cases hx : x.block < w.heap.size
  · exact hx
  · exfalso
    have e : (x.add 0).block = x.block := rfl
    have hn : w.heap[(x.add 0).block]? = none := by rw [e]; exact Array.getElem?_eq_none (by omega)
    unfold World.cell? at h
    rw [hn] at h
    cases h
theorem RD.new {w : World} {b : Nat} {a : Option Addr} {n c : Nat} {l : List Int} (h : Wi.RSt w b a n c l 0 0) : RD w.heap.size w b l (0, 0) := by
  refine ⟨a, n, c, h, h.lt, Nat.le_refl _, fun x hx hl => ?_⟩
  have hr := h.hs.row x hx 0 hl
  exact cell_lt hr
theorem Bx.ub2 {w w' : World} {q b p : Nat} {cs : List Value} (h : Bx w q cs) (u : U2 b p w w') (hq : q ≠ b) (hp : q ≠ p) : Bx w' q cs :=
  ⟨Nat.lt_of_lt_of_le h.lt u.size, fun i x hx => (u.cell (p := ⟨q, i, none⟩) h.lt (fun e => e.elim hq hp)).trans (h.cell i x hx), fun i => (u.frozen (p := ⟨q, i, none⟩) h.lt (fun e => e.elim hq hp)).trans (h.free i)⟩
theorem OwnY.later8 {α : Type} {Y : Lay α} {B : Nat} {w w' : World} {v : Value} {l : List α} (h : OwnY Y B w v l) (hb : Below w.heap.size w w') : OwnY Y B w' v l := h.far (Upd.of_below (S := fun _ => False) hb) (fun _ _ => id)
set_option maxHeartbeats 8000000 in
theorem readM_any (a : Option Addr) (n c : Nat) (l : List Int) (w : World) (hH : Wi.Hs w a n c l) (hm : n ≤ 140737488355328) (hT : Tab w) :
    Calls Tryz.prog 52 #[.slice a n c] w fun e w' => ∃ s t, e = .returned (.tuple #[(rdM l).1.m.val s t, .int .i64 (rdM l).2]) ∧ OwnY yE w.heap.size w' s (rdM l).1.L ∧ OwnY yD w.heap.size w' t (rdM l).1.D ∧ Below w.heap.size w w' := by
  go_enter Tryz.func52, Tryz.ntmps52
  go_upto_region 0 with fail
  refine wp_region_lit ?_
  refine vl_gen (fun T => T.size = 48 ∧ T[0]? = some (gw true (.slice a n c))) ⟨rfl, rfl⟩ (fun Z0 ⟨hz, s0⟩ => ?_)
  obtain ⟨w1, hw1⟩ : ∃ w1, w1 = w.alloc (.cells (zG.cs nilS nilS).toArray 38) := ⟨_, rfl⟩
  have hB01 : Below w.heap.size w w1 := by rw [hw1]; exact (Below.refl _ _).alloc (Nat.le_refl _) _
  have hs1 : w1.heap.size = w.heap.size + 1 := by rw [hw1]; simp
  have M1 : MBox w1 w.heap.size zG nilS nilS := by rw [hw1]; exact MBox.new0 w
  have hH1 := hH.later hB01
  refine vw (.pointer (some ⟨w.heap.size, 0, none⟩)) w1 (want_none rfl) (ex_al rfl (by rw [hw1]; exact alM _)) rfl hz (by decide) (fun Z1 zz kk s2x => ?_)
  replace s0 := ku s0
  clear kk hz hw1
  have hz := zz
  have s2 := s2x
  clear zz s2x
  refine vt (.int .i64 0) (ex_assign rfl rfl) hz (fun Z2 zz kk s3x => ?_)
  replace s0 := ku s0
  replace s2 := ku s2
  clear kk hz s3x
  have hz := zz
  clear zz
  refine wpList_nil ?_
  go_upto_region 1 with fail
  refine wp_region_lit ?_
  refine vt _ (ex_move rfl (ev s0 rfl)) hz (fun Ya zz kk s8 => ?_)
  replace s2 := ku s2
  replace hz := zz
  clear kk zz s0
  refine vcallP (want_none rfl) (ex_call rfl (by simp only [List.map_toArray, List.map_cons, List.map_nil, (ev s8 rfl), evc] <;> rfl) rfl) (Wi.newreader_any a n c l w1 hH1 hm) rfl hz (by decide) ?_
  rintro e w2 ⟨b, ar, cr, rfl, hRS, hbb, hb2⟩
  refine ⟨_, rfl, fun Yb zz kk s9 => ?_⟩
  have hR2 := RD.new hRS
  have hbl := hR2.lt
  obtain ⟨qr, hqr⟩ : ∃ qr, qr = w2.heap.size := ⟨_, rfl⟩
  obtain ⟨w3, hw3⟩ : ∃ y, y = w2.alloc (.cells #[.pointer none] 157) := ⟨_, rfl⟩
  have hb23 : Below w2.heap.size w2 w3 := by rw [hw3]; exact (Below.refl _ _).alloc (Nat.le_refl _) _
  have hs2 := hb2.size
  have hs3 : w3.heap.size = w2.heap.size + 1 := by rw [hw3]; simp
  have BR0 : Bx w3 qr [.pointer none] := by rw [hw3, hqr]; exact Bx.new w2 [.pointer none] _
  have hR3 := hR2.later hb23
  have M3 := (M1.bel hb2).bel hb23
  replace s2 := ku s2
  replace hz := zz
  clear kk zz s8 Ya
  refine vt (.agg #[.pointer (some ⟨b, 0, none⟩)]) (ex_buildP rfl (by simp only [List.map_toArray, List.map_cons, List.map_nil, (ev s9 rfl)] <;> rfl) (bdRd _ _)) hz (fun Yc zz kk s10 => ?_)
  replace s2 := ku s2
  replace hz := zz
  clear kk zz s9 Yb
  refine vw (.pointer (some ⟨qr, 0, none⟩)) w3 (want_none rfl) (ex_al rfl (by rw [hw3, hqr]; exact alRd _)) rfl hz (by decide) (fun Yd zz kk s4 => ?_)
  replace s2 := ku s2
  replace s10 := ku s10
  replace hz := zz
  clear kk zz Yc
  refine vs (sets w3 qr 0 [.pointer (some ⟨b, 0, none⟩)]) (want_none rfl) (ex_st rfl (ev s4 rfl) (ev s10 rfl) (BR0.st 157 [.pointer (some ⟨b, 0, none⟩)] rfl (by kernel_rfl) (by kernel_rfl))) rfl ?_
  have SP4 := BR0.put [.pointer (some ⟨b, 0, none⟩)] (Nat.le_refl _)
  obtain ⟨w4, hw4⟩ : ∃ y, y = sets w3 qr 0 [.pointer (some ⟨b, 0, none⟩)] := ⟨_, rfl⟩
  rw [← hw4] at SP4 ⊢
  have BR4 := SP4.1
  have hR4 := hR3.ub SP4.2 (fun k hk => by omega)
  have M4 := M3.upd SP4.2 (by omega)
  have hs4 := SP4.2.size
  have hs4e : w4.heap.size = w3.heap.size := by rw [hw4, size_sets]
  clear hw4 hw3
  refine wpList_nil ?_
  go_upto_region 2 with fail
  refine wp_region_lit ?_
  refine vt (.agg #[.pointer (some ⟨b, 0, none⟩)]) (ex_ld rfl (ev s4 rfl) (ldRd (BR4.cell 0 _ rfl))) hz (fun Ye zz kk s11 => ?_)
  replace s2 := ku s2
  replace s4 := ku s4
  replace hz := zz
  clear kk zz s10
  refine vcallP (want_none rfl) (ex_call rfl (by simp only [List.map_toArray, List.map_cons, List.map_nil, (ev s11 rfl), evc] <;> rfl) rfl) (rnumber_any w2.heap.size b l (0, 0) w4 hR4) rfl hz (by decide) ?_
  rintro e w5 ⟨rfl, hR5, hu5⟩
  refine ⟨_, rfl, fun Yf zz kk s12 => ?_⟩
  have BR5 := BR4.ub hu5 (by omega)
  have M5 := M4.upd hu5 (by omega)
  have hs5 := hu5.size
  obtain ⟨qm, hqm⟩ : ∃ qm, qm = w5.heap.size := ⟨_, rfl⟩
  obtain ⟨w6, hw6⟩ : ∃ y, y = w5.alloc (.cells (zG.cs nilS nilS).toArray 38) := ⟨_, rfl⟩
  have hb56 : Below w5.heap.size w5 w6 := by rw [hw6]; exact (Below.refl _ _).alloc (Nat.le_refl _) _
  have hs6 : w6.heap.size = w5.heap.size + 1 := by rw [hw6]; simp
  have MM6 : MBox w6 qm zG nilS nilS := by rw [hw6, hqm]; exact MBox.new0 w5
  have BR6 := BR5.later hb56
  have hR6 := hR5.later hb56
  have M6 := M5.bel hb56
  replace s2 := ku s2
  replace s4 := ku s4
  replace hz := zz
  clear kk zz s11 Ye
  refine vt (({ zG with k := ((rI mxI l (0, 0)) : Int) } : Mg).val nilS nilS) (ex_buildP rfl (by simp only [List.map_toArray, List.map_cons, List.map_nil, (ev s12 rfl)] <;> rfl) (bdM _ _)) hz (fun Yg zz kk s13 => ?_)
  replace s2 := ku s2
  replace s4 := ku s4
  replace hz := zz
  clear kk zz s12 Yf
  refine vw (.pointer (some ⟨qm, 0, none⟩)) w6 (want_none rfl) (ex_al rfl (by rw [hw6, hqm]; exact alM _)) rfl hz (by decide) (fun Yh zz kk s5 => ?_)
  replace s2 := ku s2
  replace s4 := ku s4
  replace s13 := ku s13
  replace hz := zz
  clear kk zz Yg
  refine vs (sets w6 qm 0 (({ zG with k := ((rI mxI l (0, 0)) : Int) } : Mg).cs nilS nilS)) (want_none rfl) (ex_st rfl (ev s5 rfl) (ev s13 rfl) (stM MM6 ({ zG with k := ((rI mxI l (0, 0)) : Int) } : Mg) nilS nilS rfl rfl)) rfl ?_
  have SP7 := MM6.putU ({ zG with k := ((rI mxI l (0, 0)) : Int) } : Mg) nilS nilS
  obtain ⟨w7, hw7⟩ : ∃ y, y = sets w6 qm 0 (({ zG with k := ((rI mxI l (0, 0)) : Int) } : Mg).cs nilS nilS) := ⟨_, rfl⟩
  rw [← hw7] at SP7 ⊢
  have MM7 := SP7.1
  have hs7 : w7.heap.size = w6.heap.size := by rw [hw7, size_sets]
  clear hw7 hw6
  have BR7 := BR6.ub SP7.2 (by omega)
  have hR7 := hR6.ub SP7.2 (fun k hk => by omega)
  have M7 := M6.upd SP7.2 (by omega)
  have hB7 : Below w.heap.size w w7 := hB01.trans ((hb2.mono (by omega)).trans ((hb23.mono (by omega)).trans ((SP4.2.below (by omega) (by omega)).trans ((hu5.below (by omega) (by omega)).trans ((hb56.mono (by omega)).trans (SP7.2.below (by omega) (by omega)))))))
  refine wpList_nil ?_
  go_upto_region 3 with fail
  refine wp_region_lit ?_
  refine vt (.pointer (some ⟨qr, 0, none⟩)) (ex_fa rfl (ev s4 rfl) (by go_simp)) hz (fun Yi zz kk s15 => ?_)
  replace s2 := ku s2
  replace s4 := ku s4
  replace s5 := ku s5
  replace hz := zz
  clear kk zz s13
  refine vt (.pointer (some ⟨b, 0, none⟩)) (ex_ld rfl (ev s15 rfl) (ldRp (BR7.cell 0 _ rfl))) hz (fun Yj zz kk s16 => ?_)
  replace s2 := ku s2
  replace s4 := ku s4
  replace s5 := ku s5
  replace hz := zz
  clear kk zz s15 Yi
  refine vcallP (want_none rfl) (ex_call rfl (by simp only [List.map_toArray, List.map_cons, List.map_nil, (ev s16 rfl), evc] <;> rfl) rfl) (rd_At w2.heap.size b l (sI mxI l (0, 0)) w7 hR7) rfl hz (by decide) ?_
  rintro e w7_ ⟨rfl, hw77⟩; rw [hw77]; clear hw77 w7_
  refine ⟨_, rfl, fun Yk zz kk s17 => ?_⟩
  replace s2 := ku s2
  replace s4 := ku s4
  replace s5 := ku s5
  replace hz := zz
  clear kk zz s16 Yj
  refine vt (.bool (decide (((sI mxI l (0, 0)).1 : Int) = 0))) (ex_bin rfl (ev s17 rfl) rfl (eqlKd _ _ _ _ _)) hz (fun Yl zz kk s18 => ?_)
  replace s2 := ku s2
  replace s4 := ku s4
  replace s5 := ku s5
  replace hz := zz
  clear kk zz s17 Yk
  refine vt _ (ex_assign rfl (ev s18 rfl)) hz (fun Ym zz kk s14 => ?_)
  replace s2 := ku s2
  replace s4 := ku s4
  replace s5 := ku s5
  replace hz := zz
  clear kk zz s18 Yl
  refine wpList_nil ?_
  go_upto_region 5 with fail
  cases e3 : decide (((sI mxI l (0, 0)).1 : Int) = 0)
  rotate_left
  · refine wp_cond_true ((ev s14 rfl).trans (congrArg Value.bool e3)) ?_
    have hE : ¬ (sI mxI l (0, 0)).2 = 0 := (first_at l).1 (by have := of_decide_eq_true e3; omega)
    have V : rdM l = (⟨zG, [], [], (0, 0)⟩, (sI mxI l (0, 0)).2) := by unfold rdM; rw [if_pos hE]
    clear s14 e3
    go_upto_region 4 with fail
    refine wp_region_lit ?_
    refine vt (zG.val nilS nilS) (ex_build rfl (bdM0 _)) hz (fun Yn zz kk s19 => ?_)
    replace s2 := ku s2
    replace s4 := ku s4
    replace hz := zz
    clear kk zz s5
    refine vt (.pointer (some ⟨qr, 0, none⟩)) (ex_fa rfl (ev s4 rfl) (by go_simp)) hz (fun Yo zz kk s20 => ?_)
    replace s2 := ku s2
    replace s19 := ku s19
    replace hz := zz
    clear kk zz s4 Yn
    refine vt (.pointer (some ⟨b, 0, none⟩)) (ex_ld rfl (ev s20 rfl) (ldRp (BR7.cell 0 _ rfl))) hz (fun Yp zz kk s21 => ?_)
    replace s2 := ku s2
    replace s19 := ku s19
    replace hz := zz
    clear kk zz s20 Yo
    refine vcallP (want_none rfl) (ex_call rfl (by simp only [List.map_toArray, List.map_cons, List.map_nil, (ev s21 rfl), evc] <;> rfl) rfl) (rd_End w2.heap.size b l (sI mxI l (0, 0)) w7 hR7) rfl hz (by decide) ?_
    rintro e w8 ⟨rfl, hb8⟩
    refine ⟨_, rfl, fun Yq zz kk s22 => ?_⟩
    have M8 := M7.bel hb8
    replace s2 := ku s2
    replace s19 := ku s19
    replace hz := zz
    clear kk zz s21 Yp
    refine vs (sets w8 w.heap.size 0 (zG.cs nilS nilS)) (want_none rfl) (ex_st rfl (ev s2 rfl) (ev s19 rfl) (stM M8 zG nilS nilS rfl rfl)) rfl ?_
    have SP9 := M8.putU zG nilS nilS
    obtain ⟨w9, hw9⟩ : ∃ y, y = sets w8 w.heap.size 0 (zG.cs nilS nilS) := ⟨_, rfl⟩
    rw [← hw9] at SP9 ⊢
    clear hw9
    refine vt _ (ex_assign rfl (ev s22 rfl)) hz (fun Yr zz kk s3 => ?_)
    replace s2 := ku s2
    replace hz := zz
    clear kk zz s19 s22 Yq
    refine wpList_nil ?_
    have hfin : Below w.heap.size w w9 := (hB7.trans (hb8.mono (by omega))).trans (SP9.2.below (by have := hb8.size; omega) (by omega))
    go_wp2
    refine bodyPost_msg rfl s2 s3 SP9.1 ?_
    rw [V]
    exact ⟨_, _, by show _ = Ending.returned (.tuple #[zG.val nilS nilS, .int .i64 (sI mxI l (0, 0)).2]); rw [Wi.endErr, if_neg hE], OwnY.nil _ _ _, OwnY.nil _ _ _, hfin⟩
  refine wp_cond_false ((ev s14 rfl).trans (congrArg Value.bool e3)) ?_
  have hE : (sI mxI l (0, 0)).2 = 0 := by have h1 := (first_at l).2; have h2 := of_decide_eq_false e3; exact Classical.byContradiction (fun hn => h2 (by rw [h1 hn]; rfl))
  clear s14 e3
  go_upto_region 5 with fail
  refine wp_region_lit ?_
  refine vt (.pointer (some ⟨qm, 0, none⟩)) (ex_fa rfl (ev s5 rfl) (MBox.faKind _ _)) hz (fun Ys zz kk s24 => ?_)
  replace s2 := ku s2
  replace s4 := ku s4
  replace s5 := ku s5
  replace hz := zz
  clear kk zz
  refine vt (.int .i64 ((rI mxI l (0, 0)) : Int)) (ex_ld rfl (ev s24 rfl) (MM7.ldKind)) hz (fun Yt zz kk s25 => ?_)
  replace s2 := ku s2
  replace s4 := ku s4
  replace s5 := ku s5
  replace hz := zz
  clear kk zz s24 Ys
  refine vcallP (want_none rfl) (ex_call rfl (by simp only [List.map_toArray, List.map_cons, List.map_nil, (ev s25 rfl), evc] <;> rfl) rfl) (isKind_any ((rI mxI l (0, 0)) : Int) w7) rfl hz (by decide) ?_
  rintro e w7_ ⟨rfl, hw77⟩; rw [hw77]; clear hw77 w7_
  refine ⟨_, rfl, fun Yu zz kk s26 => ?_⟩
  replace s2 := ku s2
  replace s4 := ku s4
  replace s5 := ku s5
  replace hz := zz
  clear kk zz s25 Yt
  refine vt (.bool (!(kdB ((rI mxI l (0, 0)) : Int)))) (ex_not rfl (ev s26 rfl)) hz (fun Yv zz kk s27 => ?_)
  replace s2 := ku s2
  replace s4 := ku s4
  replace s5 := ku s5
  replace hz := zz
  clear kk zz s26 Yu
  refine vt _ (ex_assign rfl (ev s27 rfl)) hz (fun Yw zz kk s23 => ?_)
  replace s2 := ku s2
  replace s4 := ku s4
  replace s5 := ku s5
  replace hz := zz
  clear kk zz s27 Yv
  refine wpList_nil ?_
  go_upto_region 7 with fail
  cases e5 : !kdB ((rI mxI l (0, 0)) : Int)
  rotate_left
  · refine wp_cond_true ((ev s23 rfl).trans (congrArg Value.bool e5)) ?_
    have hK : kdB ((rI mxI l (0, 0)) : Int) = false := by simpa using e5
    have V : rdM l = (⟨zG, [], [], (0, 0)⟩, 70) := by unfold rdM; rw [if_neg (by simp [hE]), if_pos hK]
    clear s23 e5
    go_upto_region 6 with fail
    refine wp_region_lit ?_
    refine vt (zG.val nilS nilS) (ex_build rfl (bdM0 _)) hz (fun Yx zz kk s28 => ?_)
    replace s2 := ku s2
    replace hz := zz
    clear kk zz s4 s5
    refine vs (sets w7 w.heap.size 0 (zG.cs nilS nilS)) (want_none rfl) (ex_st rfl (ev s2 rfl) (ev s28 rfl) (stM M7 zG nilS nilS rfl rfl)) rfl ?_
    have SP9 := M7.putU zG nilS nilS
    obtain ⟨w9, hw9⟩ : ∃ y, y = sets w7 w.heap.size 0 (zG.cs nilS nilS) := ⟨_, rfl⟩
    rw [← hw9] at SP9 ⊢
    clear hw9
    refine vt (.int .i64 70) (ex_assign rfl rfl) hz (fun Yy zz kk s3 => ?_)
    replace s2 := ku s2
    replace hz := zz
    clear kk zz s28 Yx
    refine wpList_nil ?_
    have hfin : Below w.heap.size w w9 := hB7.trans (SP9.2.below (by omega) (by omega))
    go_wp2
    refine bodyPost_msg rfl s2 s3 SP9.1 ?_
    rw [V]
    exact ⟨_, _, rfl, OwnY.nil _ _ _, OwnY.nil _ _ _, hfin⟩
  refine wp_cond_false ((ev s23 rfl).trans (congrArg Value.bool e5)) ?_
  have hK : kdB ((rI mxI l (0, 0)) : Int) = true := by simpa using e5
  clear s23 e5
  obtain ⟨k, hk⟩ : ∃ k, k = (rI mxI l (0, 0)) := ⟨_, rfl⟩
  have hk2 : k < 15 := by have := inR_iff.1 hK; omega
  obtain ⟨x0, hx0⟩ : ∃ x0 : Rst, x0 = ⟨({ zG with k := ((rI mxI l (0, 0)) : Int) } : Mg), [], [], (sI mxI l (0, 0))⟩ := ⟨_, rfl⟩
  have V : rdM l = (rCols l k x0 10, Wi.endErr l.length (rCols l k x0 10).s.1 (rCols l k x0 10).s.2) := by unfold rdM; rw [if_neg (by simp [hE]), if_neg (by simp [hK]), hx0, hk]
  have TB7 := hT.later hB7 hT.lt
  have MS7 : MS w7 qm x0.m x0.L x0.D := by rw [hx0]; exact ⟨_, _, MM7, OwnY.nil _ _ _, OwnY.nil _ _ _⟩
  have hR7x : RD w2.heap.size w7 b l x0.s := by rw [hx0]; exact hR7
  go_upto_region 7 with fail
  refine wp_region_lit ?_
  refine vt (.pointer (some ⟨qm, 0, none⟩)) (ex_fa rfl (ev s5 rfl) (MBox.faKind _ _)) hz (fun Yz zz kk s29 => ?_)
  replace s2 := ku s2
  replace s4 := ku s4
  replace s5 := ku s5
  replace hz := zz
  clear kk zz
  refine vt (.int .i64 (k : Int)) (ex_ld rfl (ev s29 rfl) (MM7.ldKind.trans (by rw [hk]))) hz (fun Y0 zz kk s30 => ?_)
  replace s2 := ku s2
  replace s4 := ku s4
  replace s5 := ku s5
  replace hz := zz
  clear kk zz s29 Yz
  refine vt (.pointer (some ⟨0, k * 10, none⟩)) (ex_ix rfl rfl (ev s30 rfl) (ixTab k hk2 _)) hz (fun Y1 zz kk s31 => ?_)
  replace s2 := ku s2
  replace s4 := ku s4
  replace s5 := ku s5
  replace hz := zz
  clear kk zz s30 Y0
  refine vt (.agg #[.int .u8 (tabA k 0 : Int), .int .u8 (tabA k 1 : Int), .int .u8 (tabA k 2 : Int), .int .u8 (tabA k 3 : Int), .int .u8 (tabA k 4 : Int), .int .u8 (tabA k 5 : Int), .int .u8 (tabA k 6 : Int), .int .u8 (tabA k 7 : Int), .int .u8 (tabA k 8 : Int), .int .u8 (tabA k 9 : Int)]) (ex_ld rfl (ev s31 rfl) (ldRow TB7 hk2)) hz (fun Y2 zz kk s32 => ?_)
  replace s2 := ku s2
  replace s4 := ku s4
  replace s5 := ku s5
  replace hz := zz
  clear kk zz s31 Y1
  refine vt (.int .i64 0) (ex_move rfl rfl) hz (fun Y3 zz kk s33 => ?_)
  replace s2 := ku s2
  replace s4 := ku s4
  replace s5 := ku s5
  replace s32 := ku s32
  replace hz := zz
  clear kk zz Y2
  refine wpList_nil ?_
  go_upto_region 8 with fail
  refine v_loop 33 10 (fun j T wr => T.size = 48 ∧ T[2]? = some (gw true (.pointer (some ⟨w.heap.size, 0, none⟩))) ∧ T[4]? = some (gw true (.pointer (some ⟨qr, 0, none⟩))) ∧ T[5]? = some (gw true (.pointer (some ⟨qm, 0, none⟩))) ∧ T[32]? = some (gw true (.agg #[.int .u8 (tabA k 0 : Int), .int .u8 (tabA k 1 : Int), .int .u8 (tabA k 2 : Int), .int .u8 (tabA k 3 : Int), .int .u8 (tabA k 4 : Int), .int .u8 (tabA k 5 : Int), .int .u8 (tabA k 6 : Int), .int .u8 (tabA k 7 : Int), .int .u8 (tabA k 8 : Int), .int .u8 (tabA k 9 : Int)])) ∧ T[33]? = some (gw true (.int .i64 (j : Int))) ∧ Hid (MS wr qm (rCols l k x0 j).m (rCols l k x0 j).L (rCols l k x0 j).D ∧ RD w2.heap.size wr b l (rCols l k x0 j).s ∧ U2 b qm w7 wr)) (fun j T w h => h.2.2.2.2.2.1) ⟨hz, s2, s4, s5, s32, s33, MS7, hR7x, U2.refl _ _ _⟩ ?_
  clear hz s2 s4 s5 s32 s33
  intro j R0 wr hj hh
  obtain ⟨hz, s2, s4, s5, s32, s33, HI⟩ := hh
  have hsr := HI.out.2.2.size
  have BRr := BR7.ub2 HI.out.2.2 (by omega) (by omega)
  go_upto_region 8 with fail
  refine wp_region_lit ?_
  refine vt (.bool (decide ((j : Int) < 10))) (ex_bin rfl (ev s33 rfl) rfl (lssC _ _ _ _ _)) hz (fun Y4 zz kk s34 => ?_)
  replace s2 := ku s2
  replace s4 := ku s4
  replace s5 := ku s5
  replace s32 := ku s32
  replace s33 := ku s33
  replace hz := zz
  clear kk zz
  refine wpList_nil ?_
  go_upto_region 9 with fail
  cases e8 : decide ((j : Int) < 10)
  rotate_left
  · refine wp_cond_true ((ev s34 rfl).trans (congrArg Value.bool e8)) ?_
    have hlt : j < 10 := by have := of_decide_eq_true e8; omega
    clear s34 e8
    go_upto_region 9 with fail
    refine wp_region_lit ?_
    refine vt _ (ex_move rfl (ev s33 rfl)) hz (fun Y5 zz kk s35 => ?_)
    replace s2 := ku s2
    replace s4 := ku s4
    replace s5 := ku s5
    replace s32 := ku s32
    replace s33 := ku s33
    replace hz := zz
    clear kk zz
    refine vt (.int .u8 (tabA k j : Int)) (ex_index rfl (ev s32 rfl) (ev s33 rfl) (rowIx k j hlt _)) hz (fun Y6 zz kk s36 => ?_)
    replace s2 := ku s2
    replace s4 := ku s4
    replace s5 := ku s5
    replace s32 := ku s32
    replace s33 := ku s33
    replace s35 := ku s35
    replace hz := zz
    clear kk zz Y5
    refine vt _ (ex_assign rfl (ev s35 rfl)) hz (fun Y7 zz kk s6 => ?_)
    replace s2 := ku s2
    replace s4 := ku s4
    replace s5 := ku s5
    replace s32 := ku s32
    replace s33 := ku s33
    replace s36 := ku s36
    replace hz := zz
    clear kk zz s35 Y6
    refine vt _ (ex_assign rfl (ev s36 rfl)) hz (fun Y8 zz kk s7 => ?_)
    replace s2 := ku s2
    replace s4 := ku s4
    replace s5 := ku s5
    replace s6 := ku s6
    replace s32 := ku s32
    replace s33 := ku s33
    replace hz := zz
    clear kk zz s36 Y7
    refine wpList_nil ?_
    go_upto_region 10 with fail
    refine wp_region_lit ?_
    refine vt _ (ex_move rfl (ev s7 rfl)) hz (fun Y9 zz kk s37 => ?_)
    replace s2 := ku s2
    replace s4 := ku s4
    replace s5 := ku s5
    replace s6 := ku s6
    replace s7 := ku s7
    replace s32 := ku s32
    replace s33 := ku s33
    replace hz := zz
    clear kk zz
    refine vt (.bool (!decide ((tabA k j : Int) = 0))) (ex_bin rfl (ev s37 rfl) rfl (neqU8 _ _ _ _ _)) hz (fun Yba zz kk s38 => ?_)
    replace s2 := ku s2
    replace s4 := ku s4
    replace s5 := ku s5
    replace s6 := ku s6
    replace s7 := ku s7
    replace s32 := ku s32
    replace s33 := ku s33
    replace hz := zz
    clear kk zz s37 Y9
    refine wpList_nil ?_
    go_upto_region 11 with fail
    refine v_cond (fun T wr => T.size = 48 ∧ T[2]? = some (gw true (.pointer (some ⟨w.heap.size, 0, none⟩))) ∧ T[4]? = some (gw true (.pointer (some ⟨qr, 0, none⟩))) ∧ T[5]? = some (gw true (.pointer (some ⟨qm, 0, none⟩))) ∧ T[32]? = some (gw true (.agg #[.int .u8 (tabA k 0 : Int), .int .u8 (tabA k 1 : Int), .int .u8 (tabA k 2 : Int), .int .u8 (tabA k 3 : Int), .int .u8 (tabA k 4 : Int), .int .u8 (tabA k 5 : Int), .int .u8 (tabA k 6 : Int), .int .u8 (tabA k 7 : Int), .int .u8 (tabA k 8 : Int), .int .u8 (tabA k 9 : Int)])) ∧ T[33]? = some (gw true (.int .i64 (j : Int))) ∧ Hid (MS wr qm (rCols l k x0 (j + 1)).m (rCols l k x0 (j + 1)).L (rCols l k x0 (j + 1)).D ∧ RD w2.heap.size wr b l (rCols l k x0 (j + 1)).s ∧ U2 b qm w7 wr)) s38 (fun hu => ?_) (fun hu => ⟨hz, s2, s4, s5, s32, s33, by rw [rCols_none (show tabA k j = 0 by have h0 : ((tabA k j : Nat) : Int) = 0 := (by simpa using hu); omega)]; exact HI.out⟩) ?_
    · clear s38
      go_upto_region 11 with fail
      refine wp_region_lit ?_
      refine vt (.agg #[.pointer (some ⟨b, 0, none⟩)]) (ex_ld rfl (ev s4 rfl) (ldRd (BRr.cell 0 _ rfl))) hz (fun Ybb zz kk s39 => ?_)
      replace s2 := ku s2
      replace s4 := ku s4
      replace s5 := ku s5
      replace s6 := ku s6
      replace s7 := ku s7
      replace s32 := ku s32
      replace s33 := ku s33
      replace hz := zz
      clear kk zz
      refine vt _ (ex_move rfl (ev s6 rfl)) hz (fun Ybc zz kk s40 => ?_)
      replace s2 := ku s2
      replace s4 := ku s4
      replace s5 := ku s5
      replace s7 := ku s7
      replace s32 := ku s32
      replace s33 := ku s33
      replace s39 := ku s39
      replace hz := zz
      clear kk zz s6 Ybb
      refine vt _ (ex_move rfl (ev s7 rfl)) hz (fun Ybd zz kk s41 => ?_)
      replace s2 := ku s2
      replace s4 := ku s4
      replace s5 := ku s5
      replace s32 := ku s32
      replace s33 := ku s33
      replace s39 := ku s39
      replace s40 := ku s40
      replace hz := zz
      clear kk zz s7 Ybc
      refine vcallP (want_none rfl) (ex_call rfl (by simp only [List.map_toArray, List.map_cons, List.map_nil, (ev s39 rfl), (ev s5 rfl), (ev s40 rfl), (ev s41 rfl), evc] <;> rfl) rfl) (rfield_all w2.heap.size b qm l (rCols l k x0 j) j hlt (tabA k j : Int) wr (by omega) HI.out.1 HI.out.2.1) rfl hz (by decide) ?_
      rintro e w8 ⟨rfl, hM8, hR8, hu8⟩
      refine ⟨_, rfl, fun Ybe zz kk s42 => ?_⟩
      replace s2 := ku s2
      replace s4 := ku s4
      replace s5 := ku s5
      replace s32 := ku s32
      replace s33 := ku s33
      replace hz := zz
      clear kk zz s39 s40 s41 Ybd
      refine wpList_nil ?_
      exact ⟨_, rfl, hz, s2, s4, s5, s32, s33, by rw [rCols_some (show ¬ tabA k j = 0 by intro h0; rw [h0] at hu; simp at hu)]; exact ⟨hM8, hR8, HI.out.2.2.trans hu8⟩⟩
    · clear hz s2 s4 s5 s32 s33 s38 HI BRr hsr
      intro T8 w8 hJ
      obtain ⟨hz, s2, s4, s5, s32, s33, HI⟩ := hJ
      go_upto_region 12 with fail
      refine wp_region_lit ?_
      refine vt (.int .i64 ((j + 1 : Nat) : Int)) (ex_bin rfl (ev s33 rfl) rfl (addJ j (by omega) _ _ _)) hz (fun Ybf zz kk s43 => ?_)
      replace s2 := ku s2
      replace s4 := ku s4
      replace s5 := ku s5
      replace s32 := ku s32
      replace s33 := ku s33
      replace hz := zz
      clear kk zz
      refine vt _ (ex_move rfl (ev s43 rfl)) hz (fun Ybg zz kk s33x => ?_)
      replace s2 := ku s2
      replace s4 := ku s4
      replace s5 := ku s5
      replace s32 := ku s32
      clear kk hz s43 s33
      have hz := zz
      have s33 := s33x
      clear zz s33x Ybf
      refine wpList_nil ?_
      exact ⟨_, rfl, by omega, hz, s2, s4, s5, s32, s33, HI.out⟩
  refine wp_cond_false ((ev s34 rfl).trans (congrArg Value.bool e8)) ?_
  have hj10 : j = 10 := by have := of_decide_eq_false e8; omega
  subst hj10
  clear s34 e8 s32 s33 hj
  obtain ⟨vs_, vt_, MMr, OLr, ODr⟩ := HI.out.1
  have M0r := M7.upd HI.out.2.2 (by omega)
  obtain ⟨av, cv, rfl, _⟩ := OLr.form
  obtain ⟨at_, ct, rfl, _⟩ := ODr.form
  go_upto_region 13 with fail
  refine vh_start (fun v => U2 b w.heap.size wr v) (by kernel_rfl) ?_
  have hS : U2 b w.heap.size wr wr.drew := U2.b (UB.of_below (Below.refl _ _).drew)
  have hRd := HI.out.2.1.later (Below.refl _ _).drew
  refine vh_take 0 true ((rCols l k x0 10).m.val (.slice av (rCols l k x0 10).L.length cv) (.slice at_ (rCols l k x0 10).D.length ct)) rfl (by kernel_rfl) (by kernel_rfl) (by kernel_rfl) (want_none rfl) (fun hc v hv => ex_ld rfl (ev s5 rfl) ((MMr.upd hv (by omega)).ldAll)) rfl hz (by decide) hS (fun Ybh zz kk s44 => ?_)
  replace s2 := ku s2
  replace s4 := ku s4
  replace hz := zz
  clear kk zz s5
  refine vh_take 1 true (.pointer (some ⟨qr, 0, none⟩)) rfl (by kernel_rfl) (by kernel_rfl) (by kernel_rfl) (want_none rfl) (fun hc v hv => ex_fa rfl (ev s4 rfl) (by go_simp)) rfl hz (by decide) hS (fun Ybi zz kk s45 => ?_)
  replace s2 := ku s2
  replace s44 := ku s44
  replace hz := zz
  clear kk zz s4 Ybh
  refine vh_take 2 true (.pointer (some ⟨b, 0, none⟩)) rfl (by kernel_rfl) (by kernel_rfl) (by kernel_rfl) (want_none rfl) (fun hc v hv => ex_ld rfl (ev s45 rfl) (ldRp ((BRr.ub2 hv (by omega) (by omega)).cell 0 _ rfl))) rfl hz (by decide) hS (fun Ybj zz kk s46 => ?_)
  replace s2 := ku s2
  replace s44 := ku s44
  replace hz := zz
  clear kk zz s45 Ybi
  refine vh_call 3 rfl (by kernel_rfl) (want_none rfl) (ex_call rfl (by simp only [List.map_toArray, List.map_cons, List.map_nil, (ev s46 rfl), evc] <;> rfl) rfl) (rd_End w2.heap.size b l (rCols l k x0 10).s wr.drew hRd) rfl hz (by decide) ?_
  rintro e w8 ⟨rfl, hb8⟩
  refine ⟨_, rfl, (hS.trans (U2.b (UB.of_below hb8))), fun Ybk zz kk s47 => ?_⟩
  have hb8r : Below wr.heap.size wr w8 := (Below.refl _ _).drew.trans hb8
  have hS8 : U2 b w.heap.size wr w8 := U2.b (UB.of_below hb8r)
  have M8 := M0r.bel hb8r
  have hs8 := hb8r.size
  replace s2 := ku s2
  replace s44 := ku s44
  replace hz := zz
  clear kk zz s46 Ybj
  refine vh_store 4 (sets w8 w.heap.size 0 ((rCols l k x0 10).m.cs (.slice av (rCols l k x0 10).L.length cv) (.slice at_ (rCols l k x0 10).D.length ct))) rfl (by kernel_rfl) (want_none rfl) (ex_st rfl (ev s2 rfl) (ev s44 rfl) (stM M8 (rCols l k x0 10).m (.slice av (rCols l k x0 10).L.length cv) (.slice at_ (rCols l k x0 10).D.length ct) rfl rfl)) rfl (hS8.trans (U2.q (M8.putU (rCols l k x0 10).m (.slice av (rCols l k x0 10).L.length cv) (.slice at_ (rCols l k x0 10).D.length ct)).2)) ?_
  have SP9 := M8.putU (rCols l k x0 10).m (.slice av (rCols l k x0 10).L.length cv) (.slice at_ (rCols l k x0 10).D.length ct)
  obtain ⟨w9, hw9⟩ : ∃ y, y = sets w8 w.heap.size 0 ((rCols l k x0 10).m.cs (.slice av (rCols l k x0 10).L.length cv) (.slice at_ (rCols l k x0 10).D.length ct)) := ⟨_, rfl⟩
  rw [← hw9] at SP9 ⊢
  clear hw9
  have hS9 : U2 b w.heap.size wr w9 := hS8.trans (U2.q SP9.2)
  refine vh_take 5 true (.int .i64 (Wi.endErr l.length (rCols l k x0 10).s.1 (rCols l k x0 10).s.2)) rfl (by kernel_rfl) (by kernel_rfl) (by kernel_rfl) (want_none rfl) (fun hc v hv => ex_assign rfl (ev s47 rfl)) rfl hz (by decide) hS9 (fun Ybl zz kk s3 => ?_)
  replace s2 := ku s2
  replace hz := zz
  clear kk zz s44 s47 Ybk
  refine vh_done (by kernel_rfl) ?_
  have hsr2 := HI.out.2.2.size
  have hfin : Below w.heap.size w w9 := hB7.trans ((Upd.below HI.out.2.2 (by omega) (fun k hk => by omega)).trans ((hb8r.mono (by omega)).trans (SP9.2.below (by omega) (by omega))))
  have OL9 := ((OLr.later8 hb8r).far SP9.2 (fun k hk => by omega)).low (show w.heap.size ≤ qm + 1 by omega)
  have OD9 := ((ODr.later8 hb8r).far SP9.2 (fun k hk => by omega)).low (show w.heap.size ≤ qm + 1 by omega)
  go_wp2
  refine bodyPost_msg rfl s2 s3 SP9.1 ?_
  rw [V]
  exact ⟨_, _, rfl, OL9, OD9, hfin⟩
def dcM (c : Cf) (f : List Int) : Rst × Int :=
  if cfB c = false then (⟨zG, [], [], (0, 0)⟩, 1)
  else if ¬ Wi.opErr f = 0 then (⟨zG, [], [], (0, 0)⟩, Wi.opErr f)
  else if ¬ (rdM (Wi.opBody f)).2 = 0 then (⟨zG, [], [], (0, 0)⟩, (rdM (Wi.opBody f)).2)
  else if ¬ ckM c (rdM (Wi.opBody f)).1.m (rdM (Wi.opBody f)).1.L (rdM (Wi.opBody f)).1.D = 0 then (⟨zG, [], [], (0, 0)⟩, ckM c (rdM (Wi.opBody f)).1.m (rdM (Wi.opBody f)).1.L (rdM (Wi.opBody f)).1.D)
  else ((rdM (Wi.opBody f)).1, 0)
theorem op_byte {f : List Int} (h : ∀ z ∈ f, 0 ≤ z ∧ z < 256) : ∀ z ∈ Wi.opBody f, 0 ≤ z ∧ z < 256 := by
  intro z hz
  unfold Wi.opBody at hz
  split at hz
  · exact h z (List.mem_of_mem_drop (List.mem_of_mem_take hz))
  · cases hz
theorem op_len (f : List Int) : (Wi.opBody f).length ≤ f.length := by
  unfold Wi.opBody
  split
  · simp; omega
  · simp
theorem rI_wf (l : List Int) (s : Nat × Int) : (Lit.int .i64 (rI mxI l s : Int)).wf = true := by
  have h : rI ((9223372036854775807 : Nat) : Int) l s ≤ 9223372036854775807 := rI_le 9223372036854775807 (Nat.le_refl _) l s
  have h2 : rI mxI l s ≤ 9223372036854775807 := h
  exact wf_i64 (by omega)
theorem fits_none : (⟨0, 0, ⟨#[]⟩⟩ : Opn).fits := ⟨by dsimp only; decide, by dsimp only; decide, by dsimp only; unfold maxLen; decide⟩
theorem str_sz (l : List Int) : (strOfNums l).size = l.length := by
  show (strOfNums l).data.size = _
  simp [strOfNums]
theorem rT_le (l : List Int) (s : Nat × Int) : (rT l s).size ≤ 64 := by
  unfold rT
  rw [str_sz]
  unfold Wi.selL
  split
  · unfold Wi.ttList
    split
    · have h : Wi.tcVal (64 : Nat) (l.drop s.1) ≤ 64 := by
        have := rI_le 64 (by decide) (l.drop s.1) (0, 0)
        unfold rI at this
        rw [Wi.sel_ok] at this
        simpa using this
      rw [List.length_take]
      exact Nat.le_trans (Nat.min_le_left _ _) h
    · simp
  · simp
theorem rO_fits (l : List Int) (s : Nat × Int) : (rO l s).fits := ⟨rI_wf _ _, rI_wf _ _, Nat.le_trans (rT_le _ _) (by unfold maxLen; omega)⟩
theorem rE_fits (l : List Int) (s : Nat × Int) : (rE l s).fits := ⟨rI_wf _ _, rI_wf _ _, rO_fits _ _⟩
theorem rCol_fits (l : List Int) (x : Rst) (j : Nat) (op : Bool) (h : (∀ e ∈ x.L, e.fits) ∧ x.m.e.fits) : (∀ e ∈ (rCol l x j op).L, e.fits) ∧ (rCol l x j op).m.e.fits := by
  unfold rCol
  split
  case h_7 =>
    split
    · exact ⟨h.1, rE_fits _ _⟩
    · exact ⟨h.1, rI_wf _ _, rI_wf _ _, fits_none⟩
  case h_9 =>
    refine ⟨fun e he => ?_, h.2⟩
    simp only [esL, List.mem_map] at he
    obtain ⟨i, _, rfl⟩ := he
    exact rE_fits _ _
  all_goals exact h
theorem rCols_fits (l : List Int) (k : Nat) (x : Rst) (h : (∀ e ∈ x.L, e.fits) ∧ x.m.e.fits) : ∀ j, (∀ e ∈ (rCols l k x j).L, e.fits) ∧ (rCols l k x j).m.e.fits
  | 0 => h
  | j + 1 => by
    unfold rCols
    split
    · exact rCols_fits l k x h j
    · exact rCol_fits _ _ _ _ (rCols_fits l k x h j)
theorem zG_fits : zG.e.fits := ⟨by decide, by decide, by decide, by decide, by unfold maxLen; decide⟩
theorem rdM_fits (l : List Int) : (∀ e ∈ (rdM l).1.L, e.fits) ∧ (rdM l).1.m.e.fits := by
  unfold rdM
  split
  · exact ⟨(fun e he => by cases he), zG_fits⟩
  · split
    · exact ⟨(fun e he => by cases he), zG_fits⟩
    · exact rCols_fits _ _ _ ⟨(fun e he => by cases he), zG_fits⟩ 10
theorem rdM_L (l : List Int) : ∀ e ∈ (rdM l).1.L, e.fits := (rdM_fits l).1
theorem rdM_e (l : List Int) : (rdM l).1.m.e.fits := (rdM_fits l).2
theorem OwnY.far6 {α : Type} {Y : Lay α} {B q : Nat} {w w1 w2 : World} {v : Value} {l : List α} (h : OwnY Y B w1 v l) (h0 : OwnY Y B w v l) (u : UB q w1 w2) (hq : q = w.heap.size) : OwnY Y B w2 v l :=
  h.upd1 u (fun g hg he => by have := (World.ownsRow.lt h0 g hg).2; omega)
theorem ex_box {o : Oper} {ρ : Operand → Value} {s : TypeId} {x : Operand} {X V : Value} {w w' : World} (ho : o.op = .box s x) (hx : ρ x = X) (hr : (Instr.box s X).run Tryz.prog w = .ok V w') : (execOp ρ o).run Tryz.prog w = .ok (.value V) w' := by
  unfold execOp
  simp only [ho, hx, Sem.run_bind, hr, Result.andThen_ok]
  rfl
theorem bxCf (f r p : Int) (u : Bool) (w : World) : (Instr.box 23 (.agg #[.int .i64 f, .int .i64 r, .int .i64 p, .bool u])).run Tryz.prog w = .ok (.pointer (some ⟨w.heap.size, 0, none⟩)) (w.alloc (.cells #[.int .i64 f, .int .i64 r, .int .i64 p, .bool u] 23)) := by
  go_simp
  first | done | rfl
set_option maxHeartbeats 8000000 in
theorem decode_any (c : Cf) (a : Option Addr) (n c_ : Nat) (f : List Int) (w : World) (hH : Wi.Hs w a n c_ f) (hm : n ≤ 140737488355328) (hT : Tab w) :
    Calls Tryz.prog 19 #[c.val, .slice a n c_] w fun e w' => ∃ s t, e = .returned (.tuple #[(dcM c f).1.m.val s t, .int .i64 (dcM c f).2]) ∧ OwnY yE w.heap.size w' s (dcM c f).1.L ∧ OwnY yD w.heap.size w' t (dcM c f).1.D ∧ Below w.heap.size w w' := by
  go_enter Tryz.func19, Tryz.ntmps19
  go_upto_region 0 with fail
  refine wp_region_lit ?_
  refine vl_gen (fun T => T.size = 40 ∧ T[0]? = some (gw true (.agg #[.int .i64 c.f, .int .i64 c.r, .int .i64 c.p, .bool c.u])) ∧ T[1]? = some (gw true (.slice a n c_))) ⟨rfl, rfl, rfl⟩ (fun Z0 ⟨hz, s0, s1⟩ => ?_)
  obtain ⟨w0, hw0⟩ : ∃ w0, w0 = w.alloc (.cells #[.int .i64 c.f, .int .i64 c.r, .int .i64 c.p, .bool c.u] 23) := ⟨_, rfl⟩
  have hB0 : Below w.heap.size w w0 := by rw [hw0]; exact (Below.refl _ _).alloc (Nat.le_refl _) _
  have hs0 : w0.heap.size = w.heap.size + 1 := by rw [hw0]; simp
  have C0 : CfB w0 w.heap.size c := ⟨by omega, fun i x hx => by rw [hw0]; exact cell_box _ _ _ _ _ (by simpa using hx)⟩
  refine vw (.pointer (some ⟨w.heap.size, 0, none⟩)) w0 (want_none rfl) (ex_box rfl (ev s0 rfl) (by rw [hw0]; exact bxCf _ _ _ _ _)) rfl hz (by decide) (fun Z1 zz kk s2x => ?_)
  replace s1 := ku s1
  clear kk hz hw0 s0
  have hz := zz
  have s2 := s2x
  clear zz s2x
  obtain ⟨w1, hw1⟩ : ∃ w1, w1 = w0.alloc (.cells (zG.cs nilS nilS).toArray 38) := ⟨_, rfl⟩
  have hb01 : Below w0.heap.size w0 w1 := by rw [hw1]; exact (Below.refl _ _).alloc (Nat.le_refl _) _
  have hs1 : w1.heap.size = w0.heap.size + 1 := by rw [hw1]; simp
  have M1 : MBox w1 (w.heap.size + 1) zG nilS nilS := by rw [hw1, ← hs0]; exact MBox.new0 w0
  have C1 := C0.bel hb01
  have hB1 := hB0.trans (hb01.mono hB0.size)
  refine vw (.pointer (some ⟨w.heap.size + 1, 0, none⟩)) w1 (want_none rfl) (ex_al rfl (by rw [hw1, ← hs0]; exact alM _)) rfl hz (by decide) (fun Z2 zz kk s4x => ?_)
  replace s1 := ku s1
  replace s2 := ku s2
  clear kk hz hw1
  have hz := zz
  have s4 := s4x
  clear zz s4x
  refine vt (.int .i64 0) (ex_assign rfl rfl) hz (fun Z3 zz kk s5x => ?_)
  replace s1 := ku s1
  replace s2 := ku s2
  replace s4 := ku s4
  clear kk hz s5x
  have hz := zz
  clear zz
  refine wpList_nil ?_
  go_upto_region 1 with fail
  refine wp_region_lit ?_
  refine vt (.agg #[.int .i64 c.f, .int .i64 c.r, .int .i64 c.p, .bool c.u]) (ex_ld rfl (ev s2 rfl) ((C1).ldAll)) hz (fun Ya zz kk s10 => ?_)
  replace s1 := ku s1
  replace s2 := ku s2
  replace s4 := ku s4
  replace hz := zz
  clear kk zz
  refine vcallP (want_none rfl) (ex_call rfl (by simp only [List.map_toArray, List.map_cons, List.map_nil, (ev s10 rfl), evc] <;> rfl) rfl) (configMayBe_any c w1) rfl hz (by decide) ?_
  rintro e w2 ⟨rfl, hb2⟩
  refine ⟨_, rfl, fun Yb zz kk s11 => ?_⟩
  have M2 := M1.bel hb2
  have C2 := C1.bel hb2
  have hB2 := hB1.trans (hb2.mono hB1.size)
  replace s1 := ku s1
  replace s2 := ku s2
  replace s4 := ku s4
  replace hz := zz
  clear kk zz s10 Ya
  refine vt (.bool (!(cfB c))) (ex_not rfl (ev s11 rfl)) hz (fun Yc zz kk s12 => ?_)
  replace s1 := ku s1
  replace s2 := ku s2
  replace s4 := ku s4
  replace hz := zz
  clear kk zz s11 Yb
  refine wpList_nil ?_
  go_upto_region 3 with fail
  cases e1 : !cfB c
  rotate_left
  · refine wp_cond_true ((ev s12 rfl).trans (congrArg Value.bool e1)) ?_
    have hn : cfB c = false := by simpa using e1
    have VV : dcM c f = (⟨zG, [], [], (0, 0)⟩, 1) := by unfold dcM; rw [if_pos hn]
    clear s1 s2 s12
    go_upto_region 2 with fail
    refine wp_region_lit ?_
    refine vt (zG.val nilS nilS) (ex_build rfl (bdM0 _)) hz (fun Yd zz kk s13 => ?_)
    replace s4 := ku s4
    replace hz := zz
    clear kk zz
    refine vs (sets w2 (w.heap.size + 1) 0 (zG.cs nilS nilS)) (want_none rfl) (ex_st rfl (ev s4 rfl) (ev s13 rfl) (stM M2 zG nilS nilS rfl rfl)) rfl ?_
    have SP := M2.putU zG nilS nilS
    obtain ⟨we, hwe⟩ : ∃ y, y = sets w2 (w.heap.size + 1) 0 (zG.cs nilS nilS) := ⟨_, rfl⟩
    rw [← hwe] at SP ⊢
    clear hwe
    refine vt (.int .i64 1) (ex_assign rfl rfl) hz (fun Ye zz kk s5 => ?_)
    replace s4 := ku s4
    replace hz := zz
    clear kk zz s13 Yd
    refine wpList_nil ?_
    have hfin : Below w.heap.size w we := hB2.trans (SP.2.below (by have := (hB2).size; omega) (by omega))
    go_wp2
    refine bodyPost_msg rfl s4 s5 SP.1 ?_
    rw [VV]
    exact ⟨_, _, rfl, OwnY.nil _ _ _, OwnY.nil _ _ _, hfin⟩
  refine wp_cond_false ((ev s12 rfl).trans (congrArg Value.bool e1)) ?_
  have hcf : cfB c = true := by simpa using e1
  clear s12 e1
  go_upto_region 3 with fail
  refine wp_region_lit ?_
  refine vt _ (ex_move rfl (ev s1 rfl)) hz (fun Yf zz kk s15 => ?_)
  replace s2 := ku s2
  replace s4 := ku s4
  replace hz := zz
  clear kk zz s1
  refine vcallP (want_none rfl) (ex_call rfl (by simp only [List.map_toArray, List.map_cons, List.map_nil, (ev s15 rfl), evc] <;> rfl) rfl) (Wi.open_any a n c_ f w2 (hH.later hB2)) rfl hz (by decide) ?_
  rintro e w3 ⟨vo, rfl, Oo, hb3⟩
  refine ⟨_, rfl, fun Yg zz kk s16 => ?_⟩
  have M3 := M2.bel hb3
  have C3 := C2.bel hb3
  have hB3 := hB2.trans (hb3.mono hB2.size)
  replace s2 := ku s2
  replace s4 := ku s4
  replace hz := zz
  clear kk zz s15 Yf
  refine vt _ (ex_move rfl (ev s16 rfl)) hz (fun Yh zz kk s14 => ?_)
  replace s2 := ku s2
  replace s4 := ku s4
  replace hz := zz
  clear kk zz s16 Yg
  refine vt (vo) (ex_ext rfl (ev s14 rfl) rfl) hz (fun Yi zz kk s17 => ?_)
  replace s2 := ku s2
  replace s4 := ku s4
  replace s14 := ku s14
  replace hz := zz
  clear kk zz Yh
  refine vt (.int .i64 (Wi.opErr f)) (ex_ext rfl (ev s14 rfl) rfl) hz (fun Yj zz kk s18 => ?_)
  replace s2 := ku s2
  replace s4 := ku s4
  replace s17 := ku s17
  replace hz := zz
  clear kk zz s14 Yi
  refine vt _ (ex_assign rfl (ev s17 rfl)) hz (fun Yk zz kk s6 => ?_)
  replace s2 := ku s2
  replace s4 := ku s4
  replace s18 := ku s18
  replace hz := zz
  clear kk zz s17 Yj
  refine vt _ (ex_assign rfl (ev s18 rfl)) hz (fun Yl zz kk s7 => ?_)
  replace s2 := ku s2
  replace s4 := ku s4
  replace s6 := ku s6
  replace hz := zz
  clear kk zz s18 Yk
  refine wpList_nil ?_
  go_upto_region 4 with fail
  refine wp_region_lit ?_
  refine vt _ (ex_move rfl (ev s7 rfl)) hz (fun Ym zz kk s19 => ?_)
  replace s2 := ku s2
  replace s4 := ku s4
  replace s6 := ku s6
  replace s7 := ku s7
  replace hz := zz
  clear kk zz
  refine vt (.bool (!decide ((Wi.opErr f) = 0))) (ex_bin rfl (ev s19 rfl) rfl (neqEr _ _ _ _ _)) hz (fun Yn zz kk s20 => ?_)
  replace s2 := ku s2
  replace s4 := ku s4
  replace s6 := ku s6
  replace s7 := ku s7
  replace hz := zz
  clear kk zz s19 Ym
  refine wpList_nil ?_
  go_upto_region 6 with fail
  cases e4 : !decide (Wi.opErr f = 0)
  rotate_left
  · refine wp_cond_true ((ev s20 rfl).trans (congrArg Value.bool e4)) ?_
    have hn : ¬ Wi.opErr f = 0 := by simpa using e4
    have VV : dcM c f = (⟨zG, [], [], (0, 0)⟩, Wi.opErr f) := by unfold dcM; rw [if_neg (by simp [hcf]), if_pos hn]
    clear s2 s6 s20
    go_upto_region 5 with fail
    refine wp_region_lit ?_
    refine vt (zG.val nilS nilS) (ex_build rfl (bdM0 _)) hz (fun Yo zz kk s21 => ?_)
    replace s4 := ku s4
    replace s7 := ku s7
    replace hz := zz
    clear kk zz
    refine vt _ (ex_move rfl (ev s7 rfl)) hz (fun Yp zz kk s22 => ?_)
    replace s4 := ku s4
    replace s21 := ku s21
    replace hz := zz
    clear kk zz s7 Yo
    refine vs (sets w3 (w.heap.size + 1) 0 (zG.cs nilS nilS)) (want_none rfl) (ex_st rfl (ev s4 rfl) (ev s21 rfl) (stM M3 zG nilS nilS rfl rfl)) rfl ?_
    have SP := M3.putU zG nilS nilS
    obtain ⟨we, hwe⟩ : ∃ y, y = sets w3 (w.heap.size + 1) 0 (zG.cs nilS nilS) := ⟨_, rfl⟩
    rw [← hwe] at SP ⊢
    clear hwe
    refine vt _ (ex_assign rfl (ev s22 rfl)) hz (fun Yq zz kk s5 => ?_)
    replace s4 := ku s4
    replace hz := zz
    clear kk zz s21 s22 Yp
    refine wpList_nil ?_
    have hfin : Below w.heap.size w we := hB3.trans (SP.2.below (by have := (hB3).size; omega) (by omega))
    go_wp2
    refine bodyPost_msg rfl s4 s5 SP.1 ?_
    rw [VV]
    exact ⟨_, _, rfl, OwnY.nil _ _ _, OwnY.nil _ _ _, hfin⟩
  refine wp_cond_false ((ev s20 rfl).trans (congrArg Value.bool e4)) ?_
  have hop : Wi.opErr f = 0 := by simpa using e4
  clear s20 e4 s7
  obtain ⟨ao, no, co, rfl, hso, _⟩ := Oo.hs (op_byte hH.byte)
  have hno : no ≤ 140737488355328 := by have h1 := hso.len; have h2 := op_len f; have h3 := hH.len; omega
  go_upto_region 6 with fail
  refine wp_region_lit ?_
  refine vt _ (ex_move rfl (ev s6 rfl)) hz (fun Yr zz kk s24 => ?_)
  replace s2 := ku s2
  replace s4 := ku s4
  replace hz := zz
  clear kk zz s6
  refine vcallP (want_none rfl) (ex_call rfl (by simp only [List.map_toArray, List.map_cons, List.map_nil, (ev s24 rfl), evc] <;> rfl) rfl) (readM_any ao no co (Wi.opBody f) w3 hso hno (hT.later hB3 hT.lt)) rfl hz (by decide) ?_
  rintro e w4 ⟨vs_, vt_, rfl, OL, OD, hb4⟩; obtain ⟨sa, sc, rfl, _⟩ := OL.form; obtain ⟨ta, tc, rfl, _⟩ := OD.form
  refine ⟨_, rfl, fun Ys zz kk s25 => ?_⟩
  have M4 := M3.bel hb4
  have C4 := C3.bel hb4
  have hB4 := hB3.trans (hb4.mono hB3.size)
  obtain ⟨qm, hqm⟩ : ∃ qm, qm = w4.heap.size := ⟨_, rfl⟩
  obtain ⟨w5, hw5⟩ : ∃ y, y = w4.alloc (.cells (zG.cs nilS nilS).toArray 38) := ⟨_, rfl⟩
  have hb45 : Below w4.heap.size w4 w5 := by rw [hw5]; exact (Below.refl _ _).alloc (Nat.le_refl _) _
  have hs5 : w5.heap.size = w4.heap.size + 1 := by rw [hw5]; simp
  have MM5 : MBox w5 qm zG nilS nilS := by rw [hw5, hqm]; exact MBox.new0 w4
  have M5 := M4.bel hb45
  have C5 := C4.bel hb45
  have hsz1 := hB1.size
  have hs34 := hb4.size
  have hs23 := hb3.size
  have hs12 := hb2.size
  have hM1lt := M1.lt
  replace s2 := ku s2
  replace s4 := ku s4
  replace hz := zz
  clear kk zz s24 Yr
  refine vt _ (ex_move rfl (ev s25 rfl)) hz (fun Yt zz kk s23 => ?_)
  replace s2 := ku s2
  replace s4 := ku s4
  replace hz := zz
  clear kk zz s25 Ys
  refine vt ((rdM (Wi.opBody f)).1.m.val (.slice sa (rdM (Wi.opBody f)).1.L.length sc) (.slice ta (rdM (Wi.opBody f)).1.D.length tc)) (ex_ext rfl (ev s23 rfl) rfl) hz (fun Yu zz kk s26 => ?_)
  replace s2 := ku s2
  replace s4 := ku s4
  replace s23 := ku s23
  replace hz := zz
  clear kk zz Yt
  refine vt (.int .i64 (rdM (Wi.opBody f)).2) (ex_ext rfl (ev s23 rfl) rfl) hz (fun Yv zz kk s27 => ?_)
  replace s2 := ku s2
  replace s4 := ku s4
  replace s26 := ku s26
  replace hz := zz
  clear kk zz s23 Yu
  refine vw (.pointer (some ⟨qm, 0, none⟩)) w5 (want_none rfl) (ex_al rfl (by rw [hw5, hqm]; exact alM _)) rfl hz (by decide) (fun Yw zz kk s8 => ?_)
  replace s2 := ku s2
  replace s4 := ku s4
  replace s26 := ku s26
  replace s27 := ku s27
  replace hz := zz
  clear kk zz Yv
  refine vs (sets w5 qm 0 ((rdM (Wi.opBody f)).1.m.cs (.slice sa (rdM (Wi.opBody f)).1.L.length sc) (.slice ta (rdM (Wi.opBody f)).1.D.length tc))) (want_none rfl) (ex_st rfl (ev s8 rfl) (ev s26 rfl) (stM MM5 (rdM (Wi.opBody f)).1.m (.slice sa (rdM (Wi.opBody f)).1.L.length sc) (.slice ta (rdM (Wi.opBody f)).1.D.length tc) rfl rfl)) rfl ?_
  have SP6 := MM5.putU (rdM (Wi.opBody f)).1.m (.slice sa (rdM (Wi.opBody f)).1.L.length sc) (.slice ta (rdM (Wi.opBody f)).1.D.length tc)
  obtain ⟨w6, hw6⟩ : ∃ y, y = sets w5 qm 0 ((rdM (Wi.opBody f)).1.m.cs (.slice sa (rdM (Wi.opBody f)).1.L.length sc) (.slice ta (rdM (Wi.opBody f)).1.D.length tc)) := ⟨_, rfl⟩
  rw [← hw6] at SP6 ⊢
  have hs6 : w6.heap.size = w5.heap.size := by rw [hw6, size_sets]
  clear hw6 hw5
  have M6 := M5.upd SP6.2 (by omega)
  have C6 : CfB w6 w.heap.size c := ⟨by omega, fun i x hx => (SP6.2.cell (p := ⟨w.heap.size, i, none⟩) C5.lt (by show ¬ w.heap.size = qm; omega)).trans (C5.cell i x hx)⟩
  have hB6 : Below w.heap.size w w6 := hB4.trans ((hb45.mono hB4.size).trans (SP6.2.below (by omega) (by omega)))
  have OL6 := (OL.later8 hb45).far6 OL SP6.2 hqm
  have OD6 := (OD.later8 hb45).far6 OD SP6.2 hqm
  refine vt _ (ex_assign rfl (ev s27 rfl)) hz (fun Yx zz kk s7 => ?_)
  replace s2 := ku s2
  replace s4 := ku s4
  replace s8 := ku s8
  replace hz := zz
  clear kk zz s26 s27 Yw
  refine wpList_nil ?_
  go_upto_region 7 with fail
  refine wp_region_lit ?_
  refine vt _ (ex_move rfl (ev s7 rfl)) hz (fun Yy zz kk s28 => ?_)
  replace s2 := ku s2
  replace s4 := ku s4
  replace s7 := ku s7
  replace s8 := ku s8
  replace hz := zz
  clear kk zz
  refine vt (.bool (!decide ((rdM (Wi.opBody f)).2 = 0))) (ex_bin rfl (ev s28 rfl) rfl (neqEr _ _ _ _ _)) hz (fun Yz zz kk s29 => ?_)
  replace s2 := ku s2
  replace s4 := ku s4
  replace s7 := ku s7
  replace s8 := ku s8
  replace hz := zz
  clear kk zz s28 Yy
  refine wpList_nil ?_
  go_upto_region 9 with fail
  cases e7 : !decide ((rdM (Wi.opBody f)).2 = 0)
  rotate_left
  · refine wp_cond_true ((ev s29 rfl).trans (congrArg Value.bool e7)) ?_
    have hn : ¬ (rdM (Wi.opBody f)).2 = 0 := by simpa using e7
    have VV : dcM c f = (⟨zG, [], [], (0, 0)⟩, (rdM (Wi.opBody f)).2) := by unfold dcM; rw [if_neg (by simp [hcf]), if_neg (by simp [hop]), if_pos hn]
    clear s2 s8 s29
    go_upto_region 8 with fail
    refine wp_region_lit ?_
    refine vt (zG.val nilS nilS) (ex_build rfl (bdM0 _)) hz (fun Y0 zz kk s30 => ?_)
    replace s4 := ku s4
    replace s7 := ku s7
    replace hz := zz
    clear kk zz
    refine vt _ (ex_move rfl (ev s7 rfl)) hz (fun Y1 zz kk s31 => ?_)
    replace s4 := ku s4
    replace s30 := ku s30
    replace hz := zz
    clear kk zz s7 Y0
    refine vs (sets w6 (w.heap.size + 1) 0 (zG.cs nilS nilS)) (want_none rfl) (ex_st rfl (ev s4 rfl) (ev s30 rfl) (stM M6 zG nilS nilS rfl rfl)) rfl ?_
    have SP := M6.putU zG nilS nilS
    obtain ⟨we, hwe⟩ : ∃ y, y = sets w6 (w.heap.size + 1) 0 (zG.cs nilS nilS) := ⟨_, rfl⟩
    rw [← hwe] at SP ⊢
    clear hwe
    refine vt _ (ex_assign rfl (ev s31 rfl)) hz (fun Y2 zz kk s5 => ?_)
    replace s4 := ku s4
    replace hz := zz
    clear kk zz s30 s31 Y1
    refine wpList_nil ?_
    have hfin : Below w.heap.size w we := hB6.trans (SP.2.below (by have := (hB6).size; omega) (by omega))
    go_wp2
    refine bodyPost_msg rfl s4 s5 SP.1 ?_
    rw [VV]
    exact ⟨_, _, rfl, OwnY.nil _ _ _, OwnY.nil _ _ _, hfin⟩
  refine wp_cond_false ((ev s29 rfl).trans (congrArg Value.bool e7)) ?_
  have hrd : (rdM (Wi.opBody f)).2 = 0 := by simpa using e7
  clear s29 e7 s7
  go_upto_region 9 with fail
  refine wp_region_lit ?_
  refine vt (.agg #[.int .i64 c.f, .int .i64 c.r, .int .i64 c.p, .bool c.u]) (ex_ld rfl (ev s2 rfl) ((C6).ldAll)) hz (fun Y3 zz kk s32 => ?_)
  replace s4 := ku s4
  replace s8 := ku s8
  replace hz := zz
  clear kk zz s2
  refine vt ((rdM (Wi.opBody f)).1.m.val (.slice sa (rdM (Wi.opBody f)).1.L.length sc) (.slice ta (rdM (Wi.opBody f)).1.D.length tc)) (ex_ld rfl (ev s8 rfl) (SP6.1.ldAll)) hz (fun Y4 zz kk s33 => ?_)
  replace s4 := ku s4
  replace s8 := ku s8
  replace s32 := ku s32
  replace hz := zz
  clear kk zz Y3
  refine vcallP (want_none rfl) (ex_call rfl (by simp only [List.map_toArray, List.map_cons, List.map_nil, (ev s32 rfl), (ev s33 rfl), evc] <;> rfl) rfl) (checkM_any c (rdM (Wi.opBody f)).1.m sa ta sc tc (rdM (Wi.opBody f)).1.L (rdM (Wi.opBody f)).1.D w6 (hT.later hB6 hT.lt) (OL6.sl' kE) (rdM_L _) (OD6.sl' kD) (rdM_e _)) rfl hz (by decide) ?_
  rintro e w7 ⟨rfl, hb7⟩
  refine ⟨_, rfl, fun Y5 zz kk s34 => ?_⟩
  have M7 := M6.bel hb7
  have MM7 := SP6.1.bel hb7
  have hB7 := hB6.trans (hb7.mono hB6.size)
  have hs7 := hb7.size
  have OL7 := OL6.later8 hb7
  have OD7 := OD6.later8 hb7
  replace s4 := ku s4
  replace s8 := ku s8
  replace hz := zz
  clear kk zz s32 s33 Y4
  refine vt _ (ex_assign rfl (ev s34 rfl)) hz (fun Y6 zz kk s9 => ?_)
  replace s4 := ku s4
  replace s8 := ku s8
  replace hz := zz
  clear kk zz s34 Y5
  refine wpList_nil ?_
  go_upto_region 10 with fail
  refine wp_region_lit ?_
  refine vt _ (ex_move rfl (ev s9 rfl)) hz (fun Y7 zz kk s35 => ?_)
  replace s4 := ku s4
  replace s8 := ku s8
  replace s9 := ku s9
  replace hz := zz
  clear kk zz
  refine vt (.bool (!decide ((ckM c (rdM (Wi.opBody f)).1.m (rdM (Wi.opBody f)).1.L (rdM (Wi.opBody f)).1.D) = 0))) (ex_bin rfl (ev s35 rfl) rfl (neqEr _ _ _ _ _)) hz (fun Y8 zz kk s36 => ?_)
  replace s4 := ku s4
  replace s8 := ku s8
  replace s9 := ku s9
  replace hz := zz
  clear kk zz s35 Y7
  refine wpList_nil ?_
  go_upto_region 12 with fail
  cases e10 : !decide ((ckM c (rdM (Wi.opBody f)).1.m (rdM (Wi.opBody f)).1.L (rdM (Wi.opBody f)).1.D) = 0)
  rotate_left
  · refine wp_cond_true ((ev s36 rfl).trans (congrArg Value.bool e10)) ?_
    have hn : ¬ (ckM c (rdM (Wi.opBody f)).1.m (rdM (Wi.opBody f)).1.L (rdM (Wi.opBody f)).1.D) = 0 := by simpa using e10
    have VV : dcM c f = (⟨zG, [], [], (0, 0)⟩, (ckM c (rdM (Wi.opBody f)).1.m (rdM (Wi.opBody f)).1.L (rdM (Wi.opBody f)).1.D)) := by unfold dcM; rw [if_neg (by simp [hcf]), if_neg (by simp [hop]), if_neg (by simp [hrd]), if_pos hn]
    clear s8 s36
    go_upto_region 11 with fail
    refine wp_region_lit ?_
    refine vt (zG.val nilS nilS) (ex_build rfl (bdM0 _)) hz (fun Y9 zz kk s37 => ?_)
    replace s4 := ku s4
    replace s9 := ku s9
    replace hz := zz
    clear kk zz
    refine vt _ (ex_move rfl (ev s9 rfl)) hz (fun Yba zz kk s38 => ?_)
    replace s4 := ku s4
    replace s37 := ku s37
    replace hz := zz
    clear kk zz s9 Y9
    refine vs (sets w7 (w.heap.size + 1) 0 (zG.cs nilS nilS)) (want_none rfl) (ex_st rfl (ev s4 rfl) (ev s37 rfl) (stM M7 zG nilS nilS rfl rfl)) rfl ?_
    have SP := M7.putU zG nilS nilS
    obtain ⟨we, hwe⟩ : ∃ y, y = sets w7 (w.heap.size + 1) 0 (zG.cs nilS nilS) := ⟨_, rfl⟩
    rw [← hwe] at SP ⊢
    clear hwe
    refine vt _ (ex_assign rfl (ev s38 rfl)) hz (fun Ybb zz kk s5 => ?_)
    replace s4 := ku s4
    replace hz := zz
    clear kk zz s37 s38 Yba
    refine wpList_nil ?_
    have hfin : Below w.heap.size w we := hB7.trans (SP.2.below (by have := (hB7).size; omega) (by omega))
    go_wp2
    refine bodyPost_msg rfl s4 s5 SP.1 ?_
    rw [VV]
    exact ⟨_, _, rfl, OwnY.nil _ _ _, OwnY.nil _ _ _, hfin⟩
  refine wp_cond_false ((ev s36 rfl).trans (congrArg Value.bool e10)) ?_
  have hck : (ckM c (rdM (Wi.opBody f)).1.m (rdM (Wi.opBody f)).1.L (rdM (Wi.opBody f)).1.D) = 0 := by simpa using e10
  clear s36 e10 s9
  have VV : dcM c f = ((rdM (Wi.opBody f)).1, 0) := by unfold dcM; rw [if_neg (by simp [hcf]), if_neg (by simp [hop]), if_neg (by simp [hrd]), if_neg (by simp [hck])]
  go_upto_region 12 with fail
  refine wp_region_lit ?_
  refine vt ((rdM (Wi.opBody f)).1.m.val (.slice sa (rdM (Wi.opBody f)).1.L.length sc) (.slice ta (rdM (Wi.opBody f)).1.D.length tc)) (ex_ld rfl (ev s8 rfl) (MM7.ldAll)) hz (fun Ybc zz kk s39 => ?_)
  replace s4 := ku s4
  replace hz := zz
  clear kk zz s8
  refine vs (sets w7 (w.heap.size + 1) 0 ((rdM (Wi.opBody f)).1.m.cs (.slice sa (rdM (Wi.opBody f)).1.L.length sc) (.slice ta (rdM (Wi.opBody f)).1.D.length tc))) (want_none rfl) (ex_st rfl (ev s4 rfl) (ev s39 rfl) (stM M7 (rdM (Wi.opBody f)).1.m (.slice sa (rdM (Wi.opBody f)).1.L.length sc) (.slice ta (rdM (Wi.opBody f)).1.D.length tc) rfl rfl)) rfl ?_
  have SP := M7.putU (rdM (Wi.opBody f)).1.m (.slice sa (rdM (Wi.opBody f)).1.L.length sc) (.slice ta (rdM (Wi.opBody f)).1.D.length tc)
  obtain ⟨we, hwe⟩ : ∃ y, y = sets w7 (w.heap.size + 1) 0 ((rdM (Wi.opBody f)).1.m.cs (.slice sa (rdM (Wi.opBody f)).1.L.length sc) (.slice ta (rdM (Wi.opBody f)).1.D.length tc)) := ⟨_, rfl⟩
  rw [← hwe] at SP ⊢
  clear hwe
  refine vt (.int .i64 0) (ex_assign rfl rfl) hz (fun Ybd zz kk s5 => ?_)
  replace s4 := ku s4
  replace hz := zz
  clear kk zz s39 Ybc
  refine wpList_nil ?_
  have hfin : Below w.heap.size w we := hB7.trans (SP.2.below (by omega) (by omega))
  have hlow : w.heap.size ≤ w3.heap.size := hB3.size
  have OLe := ((OL7.far SP.2 (fun k hk => by omega)).low hlow)
  have ODe := ((OD7.far SP.2 (fun k hk => by omega)).low hlow)
  go_wp2
  refine bodyPost_msg rfl s4 s5 SP.1 ?_
  rw [VV]
  exact ⟨_, _, rfl, OLe, ODe, hfin⟩
def QD (N : Nat) (w : World) (b : Nat) (l : List Int) (s : Nat × Int) : Prop := ∃ a n c, Wi.QSt w b a n c s.1 s.2 ∧ Wi.Hs w a n c l ∧ n ≤ 9223372036854775807 ∧ b < N ∧ N ≤ w.heap.size ∧ ∀ x, a = some x → 0 < l.length → ∃ g o, x = ⟨g, o, none⟩ ∧ g < N ∧ g ≠ b
theorem QD.lt {N : Nat} {w : World} {b : Nat} {l : List Int} {s : Nat × Int} (h : QD N w b l s) : b < N ∧ N ≤ w.heap.size := by
  obtain ⟨a, n, c, _, _, _, h1, h2, _⟩ := h
  exact ⟨h1, h2⟩
theorem hs_far {w w' : World} {a : Option Addr} {n c : Nat} {l : List Int} (h : Wi.Hs w a n c l) (hx : ∀ x, a = some x → 0 < l.length → ∃ g o, x = ⟨g, o, none⟩ ∧ ∀ i, w'.cell? ⟨g, i, none⟩ = w.cell? ⟨g, i, none⟩) : Wi.Hs w' a n c l := by
  refine ⟨h.len, h.cap, fun x hx2 i hi => ?_, h.nil, h.byte⟩
  obtain ⟨g, o, rfl, hc⟩ := hx x hx2 (by omega)
  have hr := h.row _ hx2 i hi
  rw [Addr.add_lit] at hr ⊢
  rw [hc]
  exact hr
theorem QD.ub {N : Nat} {w w' : World} {b : Nat} {l : List Int} {s : Nat × Int} {S : Nat → Prop} (h : QD N w b l s) (u : Upd S w w') (hS : ∀ k, k < N → ¬ S k) : QD N w' b l s := by
  obtain ⟨a, n, c, q, hh, hn, h1, h2, h3⟩ := h
  have hb := hS b h1
  refine ⟨a, n, c, ⟨Nat.lt_of_lt_of_le q.lt u.size, (u.cell (p := ⟨b, 0, none⟩) q.lt hb).trans q.c0, (u.cell (p := ⟨b, 1, none⟩) q.lt hb).trans q.c1, (u.cell (p := ⟨b, 2, none⟩) q.lt hb).trans q.c2, (u.frozen (p := ⟨b, 1, none⟩) q.lt hb).trans q.f1, (u.frozen (p := ⟨b, 2, none⟩) q.lt hb).trans q.f2, q.le⟩, hs_far hh (fun x hx hl => ?_), hn, h1, Nat.le_trans h2 u.size, h3⟩
  obtain ⟨g, o, rfl, hg, _⟩ := h3 x hx hl
  exact ⟨g, o, rfl, fun i => u.cell (p := ⟨g, i, none⟩) (Nat.lt_of_lt_of_le hg h2) (hS g hg)⟩
theorem QD.later {N : Nat} {w w' : World} {b : Nat} {l : List Int} {s : Nat × Int} (h : QD N w b l s) (hb : Below w.heap.size w w') : QD N w' b l s := h.ub (S := fun _ => False) (Upd.of_below hb) (fun _ _ => id)
theorem QD.step {N : Nat} {w w' : World} {b : Nat} {l : List Int} {a : Option Addr} {n c : Nat} {s' : Nat × Int} (q : Wi.QSt w' b a n c s'.1 s'.2) (o : Wi.Only b w w') (hh : Wi.Hs w a n c l) (hn : n ≤ 9223372036854775807) (h1 : b < N) (h2 : N ≤ w.heap.size) (h3 : ∀ x, a = some x → 0 < l.length → ∃ g o, x = ⟨g, o, none⟩ ∧ g < N ∧ g ≠ b) : QD N w' b l s' :=
  ⟨a, n, c, q, hs_far hh (fun x hx hl => by obtain ⟨g, o2, rfl, _, hne⟩ := h3 x hx hl; exact ⟨g, o2, rfl, fun i => o.cell (p := ⟨g, i, none⟩) hne⟩), hn, h1, by rw [o.same]; exact h2, h3⟩
theorem QD.keep {N : Nat} {w : World} {b : Nat} {l : List Int} {a : Option Addr} {n c : Nat} (hh : Wi.Hs w a n c l) (h3 : ∀ x, a = some x → 0 < l.length → ∃ g o, x = ⟨g, o, none⟩ ∧ g < N ∧ g ≠ b) (w' : World) (o : Wi.Only b w w') : Wi.Hs w' a n c l :=
  hs_far hh (fun x hx hl => by obtain ⟨g, o2, rfl, _, hne⟩ := h3 x hx hl; exact ⟨g, o2, rfl, fun i => o.cell (p := ⟨g, i, none⟩) hne⟩)
theorem qd_N (N : Nat) (b : Nat) (l : List Int) (s : Nat × Int) (w : World) (h : QD N w b l s) : Calls Tryz.prog 103 #[.pointer (some ⟨b, 0, none⟩)] w fun e w' => e = .returned (.int .u64 (rN l s : Int)) ∧ QD N w' b l (sN l s) ∧ UB b w w' := by
  obtain ⟨a, n, c, q, hh, hn, h1, h2, h3⟩ := h
  exact (Wi.qu_number b a n c l s.1 s.2 w q (QD.keep hh h3) hn).mono (fun e w' ⟨k1, k2, k3⟩ => ⟨k1, QD.step (s' := sN l s) k2 k3 hh hn h1 h2 h3, UB.of_only k3⟩)
theorem qd_I (N : Nat) (b : Nat) (m : Int) (hm : m ≤ 9223372036854775807) (l : List Int) (s : Nat × Int) (w : World) (h : QD N w b l s) : Calls Tryz.prog 54 #[.pointer (some ⟨b, 0, none⟩), .int .i64 m] w fun e w' => e = .returned (.int .i64 (rI m l s : Int)) ∧ QD N w' b l (sI m l s) ∧ UB b w w' := by
  obtain ⟨a, n, c, q, hh, hn, h1, h2, h3⟩ := h
  exact (Wi.qu_int b a n c l s.1 s.2 m hm w q (QD.keep hh h3) hn).mono (fun e w' ⟨k1, k2, k3⟩ => ⟨k1, QD.step (s' := sI m l s) k2 k3 hh hn h1 h2 h3, UB.of_only k3⟩)
theorem qd_T (N : Nat) (b : Nat) (l : List Int) (s : Nat × Int) (w : World) (h : QD N w b l s) : Calls Tryz.prog 57 #[.pointer (some ⟨b, 0, none⟩), .int .i64 64] w fun e w' => e = .returned (.string (rT l s)) ∧ QD N w' b l (sT l s) ∧ UB b w w' := by
  obtain ⟨a, n, c, q, hh, hn, h1, h2, h3⟩ := h
  exact (Wi.qu_text b a n c l s.1 s.2 64 (by decide) w q (QD.keep hh h3) hn).mono (fun e w' ⟨k1, k2, k3⟩ => ⟨k1, QD.step (s' := sT l s) k2 k3 hh hn h1 h2 h3, UB.of_only k3⟩)
theorem Bx.put1 {w : World} {q : Nat} {cs : List Value} (h : Bx w q cs) (i : Nat) (v : Value) (cs' : List Value) (hi : i < cs.length) (hc : cs' = cs.set i v) : Bx (sets w q i [v]) q cs' ∧ UB q w (sets w q i [v]) := by
  refine ⟨⟨by rw [size_sets]; exact h.lt, fun j x hx => ?_, fun j => sets_free _ _ _ (h.free j)⟩, upd_sets (S := fun b => b = q) (b := q) rfl _ _ _ (Upd.refl _ _)⟩
  rw [hc] at hx
  by_cases e : i = j
  · subst e
    rw [List.getElem?_set_self hi] at hx
    have := sets_at (b := q) [v] i w (fun k hk => ⟨_, by obtain rfl : k = 0 := by simpa using hk
                                                         rw [Nat.add_zero]; exact h.cell i _ (List.getElem?_eq_getElem hi)⟩) 0 v rfl
    rw [Nat.add_zero] at this
    rw [this]
    exact hx
  · rw [List.getElem?_set_ne e] at hx
    rw [← setCells_sets, World.cell?_setCells_out _ _ _ _ _ (fun _ _ => by show j < i ∨ i + 1 ≤ j; omega)]
    exact h.cell j x hx
theorem stStr {w : World} {q o : Nat} {y : Value} (x : ByteArray) (h : w.cell? ⟨q, o, none⟩ = some y) (hf : w.frozen? ⟨q, o, none⟩ = false) : (Instr.storeAt 9 (.pointer (some ⟨q, o, none⟩)) (.string x)).run Tryz.prog w = .ok () (sets w q o [.string x]) := by
  show _ = Result.ok () (w.setCell ⟨q, o, none⟩ (.string x))
  go_simp
theorem ldEn5 {w : World} {q : Nat} {a b c d : Int} {v : ByteArray} (h0 : w.cell? ⟨q, 0, none⟩ = some (.int .i64 a)) (h1 : w.cell? ⟨q, 1, none⟩ = some (.int .i64 b)) (h2 : w.cell? ⟨q, 2, none⟩ = some (.int .i64 c)) (h3 : w.cell? ⟨q, 3, none⟩ = some (.int .i64 d)) (h4 : w.cell? ⟨q, 4, none⟩ = some (.string v)) : (Instr.loadAt 28 (.pointer (some ⟨q, 0, none⟩))).run Tryz.prog w = .ok (.agg #[.int .i64 a, .int .i64 b, .int .i64 c, .int .i64 d, .string v]) w := by go_simp
set_option maxHeartbeats 2000000 in
theorem qdraw_any (N b : Nat) (l : List Int) (s : Nat × Int) (w : World) (h : QD N w b l s) : Calls Tryz.prog 55 #[.pointer (some ⟨b, 0, none⟩)] w fun e w' => e = .returned (.agg #[.int .u64 (rN l s : Int), .int .u64 (rN l (sN l s) : Int)]) ∧ QD N w' b l (sD l s) ∧ UB b w w' := by
  have hlt := h.lt
  have hqb : w.heap.size ≠ b := by omega
  go_enter Tryz.func55, Tryz.ntmps55
  go_upto_region 1 with fail
  obtain ⟨w1, hw1⟩ : ∃ w1, w1 = w.alloc (.cells #[.int .u64 0, .int .u64 0] 33) := ⟨_, rfl⟩
  rw [← hw1]
  have hb01 : Below w.heap.size w w1 := by rw [hw1]; exact (Below.refl _ _).alloc (Nat.le_refl _) _
  have B_0 : Bx w1 w.heap.size [.int .u64 0, .int .u64 0] := by rw [hw1]; exact Bx.new w [.int .u64 0, .int .u64 0] _
  have hR1 := h.later hb01
  have hv0 : UB b w w1 := UB.of_below hb01
  clear hw1
  refine wp_region_lit ?_
  refine vl_gen (fun T => T.size = 12 ∧ T[0]? = some (gw true (.pointer (some ⟨b, 0, none⟩))) ∧ T[2]? = some (gw true (.pointer (some ⟨w.heap.size, 0, none⟩)))) ⟨rfl, rfl, rfl⟩ (fun T0 ⟨hz, s0, s2⟩ => ?_)
  refine vt _ (ex_move rfl (ev s0 rfl)) hz (fun Ya zz kk s5 => ?_)
  replace s0 := ku s0
  replace s2 := ku s2
  replace hz := zz
  clear kk zz
  refine vcallP (want_none rfl) (ex_call rfl (by simp only [List.map_toArray, List.map_cons, List.map_nil, (ev s5 rfl), evc] <;> rfl) rfl) (qd_N N b l s w1 hR1) rfl hz (by decide) ?_
  rintro e v1 ⟨rfl, hR2, hu1⟩
  refine ⟨_, rfl, fun Yb zz kk s6 => ?_⟩
  have B_1 := B_0.ub hu1 hqb
  have hv1 := hv0.trans hu1
  clear hu1
  replace s0 := ku s0
  replace s2 := ku s2
  replace hz := zz
  clear kk zz s5 Ya
  refine vt _ (ex_assign rfl (ev s6 rfl)) hz (fun Yc zz kk s3 => ?_)
  replace s0 := ku s0
  replace s2 := ku s2
  replace hz := zz
  clear kk zz s6 Yb
  refine wpList_nil ?_
  go_upto_region 2 with fail
  refine wp_region_lit ?_
  refine vt _ (ex_move rfl (ev s0 rfl)) hz (fun Yd zz kk s7 => ?_)
  replace s2 := ku s2
  replace s3 := ku s3
  replace hz := zz
  clear kk zz s0
  refine vcallP (want_none rfl) (ex_call rfl (by simp only [List.map_toArray, List.map_cons, List.map_nil, (ev s7 rfl), evc] <;> rfl) rfl) (qd_N N b l (sN l s) v1 hR2) rfl hz (by decide) ?_
  rintro e v2 ⟨rfl, hR3, hu2⟩
  refine ⟨_, rfl, fun Ye zz kk s8 => ?_⟩
  have B_2 := B_1.ub hu2 hqb
  have hv2 := hv1.trans hu2
  clear hu2
  replace s2 := ku s2
  replace s3 := ku s3
  replace hz := zz
  clear kk zz s7 Yd
  refine vt _ (ex_assign rfl (ev s8 rfl)) hz (fun Yf zz kk s4 => ?_)
  replace s2 := ku s2
  replace s3 := ku s3
  replace hz := zz
  clear kk zz s8 Ye
  refine wpList_nil ?_
  go_upto_region 3 with fail
  refine wp_region_lit ?_
  refine vt _ (ex_move rfl (ev s3 rfl)) hz (fun Yg zz kk s9 => ?_)
  replace s2 := ku s2
  replace s4 := ku s4
  replace hz := zz
  clear kk zz s3
  refine vt _ (ex_move rfl (ev s4 rfl)) hz (fun Yh zz kk s10 => ?_)
  replace s2 := ku s2
  replace s9 := ku s9
  replace hz := zz
  clear kk zz s4 Yg
  refine vt (.agg #[.int .u64 (rN l s : Int), .int .u64 (rN l (sN l s) : Int)]) (ex_buildP rfl (by simp only [List.map_toArray, List.map_cons, List.map_nil, (ev s9 rfl), (ev s10 rfl)] <;> rfl) (bdDr _ _ _)) hz (fun Yi zz kk s11 => ?_)
  replace s2 := ku s2
  replace hz := zz
  clear kk zz s9 s10 Yh
  refine vs (sets v2 w.heap.size 0 [.int .u64 (rN l s : Int), .int .u64 (rN l (sN l s) : Int)]) (want_none rfl) (ex_st rfl (ev s2 rfl) (ev s11 rfl) (B_2.st 33 [.int .u64 (rN l s : Int), .int .u64 (rN l (sN l s) : Int)] rfl (by kernel_rfl) (by kernel_rfl))) rfl ?_
  have BR := B_2.put [.int .u64 (rN l s : Int), .int .u64 (rN l (sN l s) : Int)] (Nat.le_refl _)
  refine wpList_nil ?_
  go_wp2
  exact BR.1.res rfl s2 Tryz.underlying33 rfl (by kernel_rfl) ⟨rfl, hR3.ub BR.2 (fun k hk => by omega), hv2.trans_new BR.2 (by have := hb01.size; omega)⟩
set_option maxHeartbeats 4000000 in
theorem qentry_any (N b : Nat) (op : Bool) (l : List Int) (s : Nat × Int) (w : World) (h : QD N w b l s) : Calls Tryz.prog 56 #[.pointer (some ⟨b, 0, none⟩), .bool op] w fun e w' => e = .returned (if op then .agg #[.int .i64 (rI mxI l s : Int), .int .i64 (rI mxI l (sI mxI l s) : Int), .int .i64 (rI mxI l (s2 l s) : Int), .int .i64 (rI mxI l (sI mxI l (s2 l s)) : Int), .string (rT l (s2 l (s2 l s)))] else .agg #[.int .i64 (rI mxI l s : Int), .int .i64 (rI mxI l (sI mxI l s) : Int), .int .i64 0, .int .i64 0, .string ⟨#[]⟩]) ∧ QD N w' b l (if op then sE l s else s2 l s) ∧ UB b w w' := by
  have hlt := h.lt
  have hq4 : w.heap.size ≠ b := by omega
  have hq5 : w.heap.size + 1 ≠ b := by omega
  go_enter Tryz.func56, Tryz.ntmps56
  go_upto_region 2 with fail
  obtain ⟨w1, hw1⟩ : ∃ w1, w1 = (w.alloc (.cells #[.int .i64 0, .int .i64 0, .int .i64 0, .int .i64 0, .string ⟨#[]⟩] 28)).alloc (.cells #[.int .i64 0, .int .i64 0, .int .i64 0, .int .i64 0, .string ⟨#[]⟩] 28) := ⟨_, rfl⟩
  rw [← hw1]
  have hb01 : Below w.heap.size w w1 := by rw [hw1]; exact ((Below.refl _ _).alloc (Nat.le_refl _) _).alloc (by simp) _
  have hsz1 := hb01.size
  have Ya : Bx w1 w.heap.size [.int .i64 0, .int .i64 0, .int .i64 0, .int .i64 0, .string ⟨#[]⟩] := by rw [hw1]; exact (Bx.new w [.int .i64 0, .int .i64 0, .int .i64 0, .int .i64 0, .string ⟨#[]⟩] _).later ((Below.refl _ _).alloc (Nat.le_refl _) _)
  have Yb : Bx w1 (w.heap.size + 1) [.int .i64 0, .int .i64 0, .int .i64 0, .int .i64 0, .string ⟨#[]⟩] := by rw [hw1]; have := Bx.new (w.alloc (.cells #[.int .i64 0, .int .i64 0, .int .i64 0, .int .i64 0, .string ⟨#[]⟩] 28)) [.int .i64 0, .int .i64 0, .int .i64 0, .int .i64 0, .string ⟨#[]⟩] 28; simpa using this
  have hR1 := h.later hb01
  have hv0 : UB b w w1 := UB.of_below hb01
  clear hw1
  refine wp_region_lit ?_
  refine vl_gen (fun T => T.size = 26 ∧ T[0]? = some (gw true (.pointer (some ⟨b, 0, none⟩))) ∧ T[1]? = some (gw true (.bool op)) ∧ T[4]? = some (gw true (.pointer (some ⟨w.heap.size, 0, none⟩))) ∧ T[5]? = some (gw true (.pointer (some ⟨w.heap.size + 1, 0, none⟩)))) ⟨rfl, rfl, rfl, rfl, rfl⟩ (fun T0 ⟨hz, s0, s1, s4, s5⟩ => ?_)
  refine vt _ (ex_move rfl (ev s0 rfl)) hz (fun Yc zz kk s6 => ?_)
  replace s0 := ku s0
  replace s1 := ku s1
  replace s4 := ku s4
  replace s5 := ku s5
  replace hz := zz
  clear kk zz
  refine vcallP (want_none rfl) (ex_call rfl (by simp only [List.map_toArray, List.map_cons, List.map_nil, (ev s6 rfl), evc] <;> rfl) rfl) (qd_I N b mxI (Int.le_refl _) l s w1 hR1) rfl hz (by decide) ?_
  rintro e u1 ⟨rfl, hR1c, hu1⟩
  refine ⟨_, rfl, fun Yd zz kk s7 => ?_⟩
  have B4_1c := Ya.ub hu1 hq4
  have B5_1c := Yb.ub hu1 hq5
  have hv1c := hv0.trans hu1
  have hz1 : w1.heap.size ≤ u1.heap.size := hu1.size
  clear hu1
  replace s0 := ku s0
  replace s1 := ku s1
  replace s4 := ku s4
  replace s5 := ku s5
  replace hz := zz
  clear kk zz s6 Yc
  refine vt (.pointer (some ⟨w.heap.size + 1, 0, none⟩)) (ex_fa rfl (ev s5 rfl) (by go_simp)) hz (fun Ye zz kk s8 => ?_)
  replace s0 := ku s0
  replace s1 := ku s1
  replace s4 := ku s4
  replace s5 := ku s5
  replace s7 := ku s7
  replace hz := zz
  clear kk zz Yd
  refine vs (sets u1 (w.heap.size + 1) 0 [.int .i64 (rI mxI l s : Int)]) (want_none rfl) (ex_st rfl (ev s8 rfl) (ev s7 rfl) (stInt (rI mxI l s : Int) (B5_1c.cell 0 _ rfl) (B5_1c.free 0))) rfl ?_
  have SP := B5_1c.put1 0 (.int .i64 (rI mxI l s : Int)) [.int .i64 (rI mxI l s : Int), .int .i64 0, .int .i64 0, .int .i64 0, .string ⟨#[]⟩] (by simp) rfl
  obtain ⟨v1, hw1⟩ : ∃ y, y = sets u1 (w.heap.size + 1) 0 [.int .i64 (rI mxI l s : Int)] := ⟨_, rfl⟩
  rw [← hw1] at SP ⊢
  clear hw1
  have Yf := SP.1
  have Yg := B4_1c.ub SP.2 (by omega)
  have hR2 := hR1c.ub SP.2 (fun k hk => by omega)
  have hv1 := hv1c.trans_new SP.2 (by omega)
  clear SP hR1c hv1c B4_1c B5_1c
  refine wpList_nil ?_
  go_upto_region 3 with fail
  refine wp_region_lit ?_
  refine vt _ (ex_move rfl (ev s0 rfl)) hz (fun Yh zz kk s9 => ?_)
  replace s0 := ku s0
  replace s1 := ku s1
  replace s4 := ku s4
  replace s5 := ku s5
  replace hz := zz
  clear kk zz s7 s8
  refine vcallP (want_none rfl) (ex_call rfl (by simp only [List.map_toArray, List.map_cons, List.map_nil, (ev s9 rfl), evc] <;> rfl) rfl) (qd_I N b mxI (Int.le_refl _) l (sI mxI l s) v1 hR2) rfl hz (by decide) ?_
  rintro e u2 ⟨rfl, hR2c, hu2⟩
  refine ⟨_, rfl, fun Yi zz kk s10 => ?_⟩
  have B4_2c := Yg.ub hu2 hq4
  have B5_2c := Yf.ub hu2 hq5
  have hv2c := hv1.trans hu2
  have hz2 : v1.heap.size ≤ u2.heap.size := hu2.size
  clear hu2
  replace s0 := ku s0
  replace s1 := ku s1
  replace s4 := ku s4
  replace s5 := ku s5
  replace hz := zz
  clear kk zz s9 Yh
  refine vt (.pointer (some ⟨w.heap.size + 1, 1, none⟩)) (ex_fa rfl (ev s5 rfl) (by go_simp)) hz (fun Yj zz kk s11 => ?_)
  replace s0 := ku s0
  replace s1 := ku s1
  replace s4 := ku s4
  replace s5 := ku s5
  replace s10 := ku s10
  replace hz := zz
  clear kk zz Yi
  refine vs (sets u2 (w.heap.size + 1) 1 [.int .i64 (rI mxI l (sI mxI l s) : Int)]) (want_none rfl) (ex_st rfl (ev s11 rfl) (ev s10 rfl) (stInt (rI mxI l (sI mxI l s) : Int) (B5_2c.cell 1 _ rfl) (B5_2c.free 1))) rfl ?_
  have SP := B5_2c.put1 1 (.int .i64 (rI mxI l (sI mxI l s) : Int)) [.int .i64 (rI mxI l s : Int), .int .i64 (rI mxI l (sI mxI l s) : Int), .int .i64 0, .int .i64 0, .string ⟨#[]⟩] (by simp) rfl
  obtain ⟨v2, hw2⟩ : ∃ y, y = sets u2 (w.heap.size + 1) 1 [.int .i64 (rI mxI l (sI mxI l s) : Int)] := ⟨_, rfl⟩
  rw [← hw2] at SP ⊢
  clear hw2
  have Yk := SP.1
  have Yl := B4_2c.ub SP.2 (by omega)
  have hR3 := hR2c.ub SP.2 (fun k hk => by omega)
  have hv2 := hv2c.trans_new SP.2 (by omega)
  clear SP hR2c hv2c B4_2c B5_2c
  refine wpList_nil ?_
  go_upto_region 4 with fail
  refine wp_region_lit ?_
  refine vt _ (ex_move rfl (ev s1 rfl)) hz (fun Ym zz kk s12 => ?_)
  replace s0 := ku s0
  replace s4 := ku s4
  replace s5 := ku s5
  replace hz := zz
  clear kk zz s1
  refine wpList_nil ?_
  go_upto_region 8 with fail
  cases op with
  | false =>
    refine wp_cond_false (ev s12 rfl) ?_
    clear s12 s0
    go_upto_region 8 with fail
    refine wp_region_lit ?_
    refine vt (.agg #[.int .i64 (rI mxI l s : Int), .int .i64 (rI mxI l (sI mxI l s) : Int), .int .i64 0, .int .i64 0, .string ⟨#[]⟩]) (ex_ld rfl (ev s5 rfl) (ldEn5 (Yk.cell 0 _ rfl) (Yk.cell 1 _ rfl) (Yk.cell 2 _ rfl) (Yk.cell 3 _ rfl) (Yk.cell 4 _ rfl))) hz (fun Yn zz kk s25 => ?_)
    replace s4 := ku s4
    replace hz := zz
    clear kk zz s5
    refine vs (sets v2 (w.heap.size) 0 [.int .i64 (rI mxI l s : Int), .int .i64 (rI mxI l (sI mxI l s) : Int), .int .i64 0, .int .i64 0, .string ⟨#[]⟩]) (want_none rfl) (ex_st rfl (ev s4 rfl) (ev s25 rfl) (Yl.st 28 [.int .i64 (rI mxI l s : Int), .int .i64 (rI mxI l (sI mxI l s) : Int), .int .i64 0, .int .i64 0, .string ⟨#[]⟩] rfl (by kernel_rfl) (by kernel_rfl))) rfl ?_
    have BR := Yl.put [.int .i64 (rI mxI l s : Int), .int .i64 (rI mxI l (sI mxI l s) : Int), .int .i64 0, .int .i64 0, .string ⟨#[]⟩] (Nat.le_refl _)
    refine wpList_nil ?_
    go_wp2
    exact BR.1.res rfl s4 Tryz.underlying28 rfl (by kernel_rfl) ⟨rfl, hR3.ub BR.2 (fun k hk => by omega), hv2.trans_new BR.2 (by omega)⟩
  | true =>
    refine wp_cond_true (ev s12 rfl) ?_
    clear s12
    go_upto_region 5 with fail
    refine wp_region_lit ?_
    refine vt _ (ex_move rfl (ev s0 rfl)) hz (fun Yo zz kk s13 => ?_)
    replace s0 := ku s0
    replace s4 := ku s4
    replace s5 := ku s5
    replace hz := zz
    clear kk zz
    refine vcallP (want_none rfl) (ex_call rfl (by simp only [List.map_toArray, List.map_cons, List.map_nil, (ev s13 rfl), evc] <;> rfl) rfl) (qd_I N b mxI (Int.le_refl _) l (s2 l s) v2 hR3) rfl hz (by decide) ?_
    rintro e u3 ⟨rfl, hR3c, hu3⟩
    refine ⟨_, rfl, fun Yp zz kk s14 => ?_⟩
    have B4_3c := Yl.ub hu3 hq4
    have B5_3c := Yk.ub hu3 hq5
    have hv3c := hv2.trans hu3
    have hz3 : v2.heap.size ≤ u3.heap.size := hu3.size
    clear hu3
    replace s0 := ku s0
    replace s4 := ku s4
    replace s5 := ku s5
    replace hz := zz
    clear kk zz s13 Yo
    refine vt (.pointer (some ⟨w.heap.size + 1, 2, none⟩)) (ex_fa rfl (ev s5 rfl) (by go_simp)) hz (fun Yq zz kk s15 => ?_)
    replace s0 := ku s0
    replace s4 := ku s4
    replace s5 := ku s5
    replace s14 := ku s14
    replace hz := zz
    clear kk zz Yp
    refine vt (.pointer (some ⟨w.heap.size + 1, 2, none⟩)) (ex_fa rfl (ev s15 rfl) (by go_simp)) hz (fun Yr zz kk s16 => ?_)
    replace s0 := ku s0
    replace s4 := ku s4
    replace s5 := ku s5
    replace s14 := ku s14
    replace hz := zz
    clear kk zz s15 Yq
    refine vs (sets u3 (w.heap.size + 1) 2 [.int .i64 (rI mxI l (s2 l s) : Int)]) (want_none rfl) (ex_st rfl (ev s16 rfl) (ev s14 rfl) (stInt (rI mxI l (s2 l s) : Int) (B5_3c.cell 2 _ rfl) (B5_3c.free 2))) rfl ?_
    have SP := B5_3c.put1 2 (.int .i64 (rI mxI l (s2 l s) : Int)) [.int .i64 (rI mxI l s : Int), .int .i64 (rI mxI l (sI mxI l s) : Int), .int .i64 (rI mxI l (s2 l s) : Int), .int .i64 0, .string ⟨#[]⟩] (by simp) rfl
    obtain ⟨v3, hw3⟩ : ∃ y, y = sets u3 (w.heap.size + 1) 2 [.int .i64 (rI mxI l (s2 l s) : Int)] := ⟨_, rfl⟩
    rw [← hw3] at SP ⊢
    clear hw3
    have Ys := SP.1
    have Yt := B4_3c.ub SP.2 (by omega)
    have hR4 := hR3c.ub SP.2 (fun k hk => by omega)
    have hv3 := hv3c.trans_new SP.2 (by omega)
    clear SP hR3c hv3c B4_3c B5_3c
    refine wpList_nil ?_
    go_upto_region 6 with fail
    refine wp_region_lit ?_
    refine vt _ (ex_move rfl (ev s0 rfl)) hz (fun Yu zz kk s17 => ?_)
    replace s0 := ku s0
    replace s4 := ku s4
    replace s5 := ku s5
    replace hz := zz
    clear kk zz
    refine vcallP (want_none rfl) (ex_call rfl (by simp only [List.map_toArray, List.map_cons, List.map_nil, (ev s17 rfl), evc] <;> rfl) rfl) (qd_I N b mxI (Int.le_refl _) l (sI mxI l (s2 l s)) v3 hR4) rfl hz (by decide) ?_
    rintro e u4 ⟨rfl, hR4c, hu4⟩
    refine ⟨_, rfl, fun Yv zz kk s18 => ?_⟩
    have B4_4c := Yt.ub hu4 hq4
    have B5_4c := Ys.ub hu4 hq5
    have hv4c := hv3.trans hu4
    have hz4 : v3.heap.size ≤ u4.heap.size := hu4.size
    clear hu4
    replace s0 := ku s0
    replace s4 := ku s4
    replace s5 := ku s5
    replace hz := zz
    clear kk zz s17 Yu
    refine vt (.pointer (some ⟨w.heap.size + 1, 2, none⟩)) (ex_fa rfl (ev s5 rfl) (by go_simp)) hz (fun Yw zz kk s19 => ?_)
    replace s0 := ku s0
    replace s4 := ku s4
    replace s5 := ku s5
    replace s18 := ku s18
    replace hz := zz
    clear kk zz Yv
    refine vt (.pointer (some ⟨w.heap.size + 1, 3, none⟩)) (ex_fa rfl (ev s19 rfl) (by go_simp)) hz (fun Yx zz kk s20 => ?_)
    replace s0 := ku s0
    replace s4 := ku s4
    replace s5 := ku s5
    replace s18 := ku s18
    replace hz := zz
    clear kk zz s19 Yw
    refine vs (sets u4 (w.heap.size + 1) 3 [.int .i64 (rI mxI l (sI mxI l (s2 l s)) : Int)]) (want_none rfl) (ex_st rfl (ev s20 rfl) (ev s18 rfl) (stInt (rI mxI l (sI mxI l (s2 l s)) : Int) (B5_4c.cell 3 _ rfl) (B5_4c.free 3))) rfl ?_
    have SP := B5_4c.put1 3 (.int .i64 (rI mxI l (sI mxI l (s2 l s)) : Int)) [.int .i64 (rI mxI l s : Int), .int .i64 (rI mxI l (sI mxI l s) : Int), .int .i64 (rI mxI l (s2 l s) : Int), .int .i64 (rI mxI l (sI mxI l (s2 l s)) : Int), .string ⟨#[]⟩] (by simp) rfl
    obtain ⟨v4, hw4⟩ : ∃ y, y = sets u4 (w.heap.size + 1) 3 [.int .i64 (rI mxI l (sI mxI l (s2 l s)) : Int)] := ⟨_, rfl⟩
    rw [← hw4] at SP ⊢
    clear hw4
    have Yy := SP.1
    have Yz := B4_4c.ub SP.2 (by omega)
    have hR5 := hR4c.ub SP.2 (fun k hk => by omega)
    have hv4 := hv4c.trans_new SP.2 (by omega)
    clear SP hR4c hv4c B4_4c B5_4c
    refine wpList_nil ?_
    go_upto_region 7 with fail
    refine wp_region_lit ?_
    refine vt _ (ex_move rfl (ev s0 rfl)) hz (fun Y0 zz kk s21 => ?_)
    replace s4 := ku s4
    replace s5 := ku s5
    replace hz := zz
    clear kk zz s0
    refine vcallP (want_none rfl) (ex_call rfl (by simp only [List.map_toArray, List.map_cons, List.map_nil, (ev s21 rfl), evc] <;> rfl) rfl) (qd_T N b l (s2 l (s2 l s)) v4 hR5) rfl hz (by decide) ?_
    rintro e u5 ⟨rfl, hR5c, hu5⟩
    refine ⟨_, rfl, fun Y1 zz kk s22 => ?_⟩
    have B4_5c := Yz.ub hu5 hq4
    have B5_5c := Yy.ub hu5 hq5
    have hv5c := hv4.trans hu5
    have hz5 : v4.heap.size ≤ u5.heap.size := hu5.size
    clear hu5
    replace s4 := ku s4
    replace s5 := ku s5
    replace hz := zz
    clear kk zz s21 Y0
    refine vt (.pointer (some ⟨w.heap.size + 1, 2, none⟩)) (ex_fa rfl (ev s5 rfl) (by go_simp)) hz (fun Y2 zz kk s23 => ?_)
    replace s4 := ku s4
    replace s5 := ku s5
    replace s22 := ku s22
    replace hz := zz
    clear kk zz Y1
    refine vt (.pointer (some ⟨w.heap.size + 1, 4, none⟩)) (ex_fa rfl (ev s23 rfl) (by go_simp)) hz (fun Y3 zz kk s24 => ?_)
    replace s4 := ku s4
    replace s5 := ku s5
    replace s22 := ku s22
    replace hz := zz
    clear kk zz s23 Y2
    refine vs (sets u5 (w.heap.size + 1) 4 [.string (rT l (s2 l (s2 l s)))]) (want_none rfl) (ex_st rfl (ev s24 rfl) (ev s22 rfl) (stStr (rT l (s2 l (s2 l s))) (B5_5c.cell 4 _ rfl) (B5_5c.free 4))) rfl ?_
    have SP := B5_5c.put1 4 (.string (rT l (s2 l (s2 l s)))) [.int .i64 (rI mxI l s : Int), .int .i64 (rI mxI l (sI mxI l s) : Int), .int .i64 (rI mxI l (s2 l s) : Int), .int .i64 (rI mxI l (sI mxI l (s2 l s)) : Int), .string (rT l (s2 l (s2 l s)))] (by simp) rfl
    obtain ⟨v5, hw5⟩ : ∃ y, y = sets u5 (w.heap.size + 1) 4 [.string (rT l (s2 l (s2 l s)))] := ⟨_, rfl⟩
    rw [← hw5] at SP ⊢
    clear hw5
    have Y4 := SP.1
    have Y5 := B4_5c.ub SP.2 (by omega)
    have hR6 := hR5c.ub SP.2 (fun k hk => by omega)
    have hv5 := hv5c.trans_new SP.2 (by omega)
    clear SP hR5c hv5c B4_5c B5_5c
    refine wpList_nil ?_
    go_upto_region 8 with fail
    refine wp_region_lit ?_
    refine vt (.agg #[.int .i64 (rI mxI l s : Int), .int .i64 (rI mxI l (sI mxI l s) : Int), .int .i64 (rI mxI l (s2 l s) : Int), .int .i64 (rI mxI l (sI mxI l (s2 l s)) : Int), .string (rT l (s2 l (s2 l s)))]) (ex_ld rfl (ev s5 rfl) (ldEn5 (Y4.cell 0 _ rfl) (Y4.cell 1 _ rfl) (Y4.cell 2 _ rfl) (Y4.cell 3 _ rfl) (Y4.cell 4 _ rfl))) hz (fun Yn zz kk s25 => ?_)
    replace s4 := ku s4
    replace hz := zz
    clear kk zz s5
    refine vs (sets v5 (w.heap.size) 0 [.int .i64 (rI mxI l s : Int), .int .i64 (rI mxI l (sI mxI l s) : Int), .int .i64 (rI mxI l (s2 l s) : Int), .int .i64 (rI mxI l (sI mxI l (s2 l s)) : Int), .string (rT l (s2 l (s2 l s)))]) (want_none rfl) (ex_st rfl (ev s4 rfl) (ev s25 rfl) (Y5.st 28 [.int .i64 (rI mxI l s : Int), .int .i64 (rI mxI l (sI mxI l s) : Int), .int .i64 (rI mxI l (s2 l s) : Int), .int .i64 (rI mxI l (sI mxI l (s2 l s)) : Int), .string (rT l (s2 l (s2 l s)))] rfl (by kernel_rfl) (by kernel_rfl))) rfl ?_
    have BR := Y5.put [.int .i64 (rI mxI l s : Int), .int .i64 (rI mxI l (sI mxI l s) : Int), .int .i64 (rI mxI l (s2 l s) : Int), .int .i64 (rI mxI l (sI mxI l (s2 l s)) : Int), .string (rT l (s2 l (s2 l s)))] (Nat.le_refl _)
    refine wpList_nil ?_
    go_wp2
    exact BR.1.res rfl s4 Tryz.underlying28 rfl (by kernel_rfl) ⟨rfl, hR6.ub BR.2 (fun k hk => by omega), hv5.trans_new BR.2 (by omega)⟩
def c3 : Cf := ⟨1, 4, 6, false⟩
def rq : Mg := ⟨1, 0, 0, ⟨1, 2, ⟨1, 7, ⟨#[97]⟩⟩⟩, (0, 0, ⟨#[]⟩), 0, 0, 0, (0, 0)⟩
def b13 : List Int := [1, 1, 1, 1, 1, 2, 1, 1, 1, 7, 1, 1, 97]
def cmB : Mg := ⟨5, 1, 0, ⟨0, 0, ⟨0, 0, ⟨#[]⟩⟩⟩, (0, 0, ⟨#[]⟩), 0, 0, 0, (0, 0)⟩
theorem ck_rq : ckM c3 rq [] [] = 0 := by decide
theorem mb_rq : mbBy rq [] [] 1 = b13 := by decide
theorem rd_b13 : rdM b13 = (⟨rq, [], [], (13, 0)⟩, 0) := by rfl
theorem ck_cm : ckM c3 cmB [] [(0, 0), (0, 0), (0, 0)] = 71 := by decide
theorem num7_any (x : Int) (w : World) : Calls Tryz.prog 8 #[.int .i64 x] w fun e w' => e = .returned (.int .i64 x) ∧ w' = w := by
  go_enter Tryz.func8, Tryz.ntmps8
  go_wp2
  go_ret
  exact ⟨rfl, rfl⟩
theorem three7_any (w : World) : Calls Tryz.prog 42 #[] w fun e w' => e = .returned c3.val ∧ Below w.heap.size w w' := by
  go_enter Tryz.func42, Tryz.ntmps42
  go_wp2
  exact bodyPost_ret (v := c3.val) (by simp [results, Tryz.results42, go_sem]; first | done | rfl) rfl ⟨rfl, (Below.refl _ _).alloc (Nat.le_refl _) _⟩
theorem bdEn3 (w : World) : (Instr.build 28 #[(0, .int .i64 1), (1, .int .i64 2), (2, .agg #[.int .i64 1, .int .i64 7, .string ⟨#[97]⟩])]).run Tryz.prog w = .ok (.agg #[.int .i64 1, .int .i64 2, .int .i64 1, .int .i64 7, .string ⟨#[97]⟩]) w := by go_simp
theorem bdRq (w : World) : (Instr.build 38 #[(0, .int .i64 1), (3, .agg #[.int .i64 1, .int .i64 2, .int .i64 1, .int .i64 7, .string ⟨#[97]⟩])]).run Tryz.prog w = .ok (rq.val nilS nilS) w := by
  go_simp
  first | done | rfl
theorem request7_any (w : World) : Calls Tryz.prog 43 #[] w fun e w' => e = .returned (rq.val nilS nilS) ∧ Below w.heap.size w w' := by
  go_enter Tryz.func43, Tryz.ntmps43
  go_upto_region 0 with fail
  refine wp_region_lit ?_
  refine vl_gen (fun T => T.size = 4) rfl (fun Z0 hz => ?_)
  obtain ⟨w1, hw1⟩ : ∃ w1, w1 = w.alloc (.cells (zG.cs nilS nilS).toArray 38) := ⟨_, rfl⟩
  have M1 : MBox w1 w.heap.size zG nilS nilS := by rw [hw1]; exact MBox.new0 w
  have hB1 : Below w.heap.size w w1 := by rw [hw1]; exact (Below.refl _ _).alloc (Nat.le_refl _) _
  refine vw (.pointer (some ⟨w.heap.size, 0, none⟩)) w1 (want_none rfl) (ex_al rfl (by rw [hw1]; exact alM _)) rfl hz (by decide) (fun Z1 zz kk s0 => ?_)
  clear kk hz hw1
  have hz := zz
  clear zz
  refine wpList_nil ?_
  go_upto_region 1 with fail
  refine wp_region_lit ?_
  refine vl true (.agg #[.int .i64 1, .int .i64 7, .string ⟨#[97]⟩]) (want_none rfl) (fun hc => ex_buildP rfl (by simp only [List.map_toArray, List.map_cons, List.map_nil] <;> rfl) (bdOp 1 7 ⟨#[97]⟩ _)) rfl hz (by decide) (fun Z2 zz kk s1 => ?_)
  replace s0 := ku s0
  clear kk hz
  have hz := zz
  clear zz
  refine vl true (.agg #[.int .i64 1, .int .i64 2, .int .i64 1, .int .i64 7, .string ⟨#[97]⟩]) (want_none rfl) (fun hc => ex_buildP rfl (by simp only [List.map_toArray, List.map_cons, List.map_nil, (ev s1 rfl)] <;> rfl) (bdEn3 _)) rfl hz (by decide) (fun Z3 zz kk s2 => ?_)
  replace s0 := ku s0
  clear kk hz s1
  have hz := zz
  clear zz
  refine vl true (rq.val nilS nilS) (want_none rfl) (fun hc => ex_buildP rfl (by simp only [List.map_toArray, List.map_cons, List.map_nil, (ev s2 rfl)] <;> rfl) (bdRq _)) rfl hz (by decide) (fun Z4 zz kk s3 => ?_)
  replace s0 := ku s0
  clear kk hz s2
  have hz := zz
  clear zz
  refine vs (sets w1 w.heap.size 0 (rq.cs nilS nilS)) (want_none rfl) (ex_st rfl (ev s0 rfl) (ev s3 rfl) (stM M1 rq nilS nilS rfl rfl)) rfl ?_
  have SP := M1.putU rq nilS nilS
  obtain ⟨we, hwe⟩ : ∃ y, y = sets w1 w.heap.size 0 (rq.cs nilS nilS) := ⟨_, rfl⟩
  rw [← hwe] at SP ⊢
  clear hwe
  have hfin : Below w.heap.size w we := hB1.trans (SP.2.below (by have := hB1.size; omega) (Nat.le_refl _))
  refine wpList_nil ?_
  go_wp2
  exact (Bx.mk SP.1.lt SP.1.cell SP.1.free).res rfl s0 Tryz.underlying38 rfl (by kernel_rfl) ⟨rfl, hfin⟩
theorem sl_nil {α : Type} (Y : Lay α) (w : World) : SlY Y w none 0 0 [] := ⟨rfl, Nat.le_refl _, by unfold maxLen; omega, fun _ => ⟨rfl, rfl⟩, fun x hx => .inl rfl⟩
theorem rq_fits : rq.e.fits := ⟨rfl, rfl, rfl, rfl, by show 1 ≤ maxLen; unfold maxLen; omega⟩
theorem b13_byte : ∀ z ∈ b13, 0 ≤ z ∧ z < 256 := by decide
theorem encode_rq (w : World) (hT : Tab w) : Calls Tryz.prog 16 #[c3.val, rq.val nilS nilS] w fun e w' => ∃ a n c, e = .returned (.tuple #[.slice a n c, .int .i64 0]) ∧ Wi.Hs w' a n c (M.frame b13) ∧ Below w.heap.size w w' := by
  refine (encode_any c3 rq none none 0 0 [] [] w hT (sl_nil _ _) (fun e he => by cases he) (sl_nil _ _) rq_fits (by unfold drF; decide) (fun d hd => by cases hd)).mono ?_
  rintro e w' ⟨v, rfl, O, hb⟩
  have he : enB c3 rq [] [] = M.frame b13 := by
    unfold enB
    rw [if_pos ck_rq]
    exact congrArg M.frame mb_rq
  rw [he] at O
  obtain ⟨a, n, c, rfl, hs, _⟩ := O.hs (M.frame_byte _ b13_byte)
  exact ⟨a, n, c, by rw [ck_rq], hs, hb⟩
theorem decode_rq (a : Option Addr) (n c : Nat) (w : World) (hH : Wi.Hs w a n c (M.frame b13)) (hT : Tab w) : Calls Tryz.prog 19 #[c3.val, .slice a n c] w fun e w' => ∃ sa sc ta tc, e = .returned (.tuple #[rq.val (.slice sa 0 sc) (.slice ta 0 tc), .int .i64 0]) ∧ SlY yE w' sa 0 sc [] ∧ SlY yD w' ta 0 tc [] ∧ Below w.heap.size w w' := by
  have hl : (M.frame b13).length ≤ 100 := by rw [M.frame_length]; decide
  refine (decode_any c3 a n c (M.frame b13) w hH (by have := hH.len; omega) hT).mono ?_
  have he : dcM c3 (M.frame b13) = (⟨rq, [], [], (13, 0)⟩, 0) := by
    have h1 := Wi.frame_err b13 (by decide) b13_byte
    have h2 := Wi.frame_body b13 (by decide) b13_byte
    unfold dcM
    rw [h2, rd_b13]
    simp only [h1, ck_rq]
    rfl
  rw [he]
  rintro e w' ⟨s, t, rfl, O1, O2, hb⟩
  obtain ⟨sa, sc, rfl, _⟩ := O1.form
  obtain ⟨ta, tc, rfl, _⟩ := O2.form
  exact ⟨sa, sc, ta, tc, rfl, O1.sl' kE, O2.sl' kD, hb⟩
theorem check_cm (g : Nat) (w : World) (hT : Tab w) (h : SlY yD w (some ⟨g, 0, none⟩) 3 3 [(0, 0), (0, 0), (0, 0)]) : Calls Tryz.prog 9 #[c3.val, cmB.val nilS (.slice (some ⟨g, 0, none⟩) 3 3)] w fun e w' => e = .returned (.int .i64 71) ∧ Below w.heap.size w w' := by
  refine (checkM_any c3 cmB none (some ⟨g, 0, none⟩) 0 3 [] [(0, 0), (0, 0), (0, 0)] w hT (sl_nil _ _) (fun e he => by cases he) h ⟨rfl, rfl, rfl, rfl, by show 0 ≤ maxLen; omega⟩).mono ?_
  rw [ck_cm]
  exact fun e w' h => h
theorem same_rq (sa ta : Option Addr) (sc tc : Nat) (w : World) (h1 : SlY yE w sa 0 sc []) (h2 : SlY yD w ta 0 tc []) : Calls Tryz.prog 22 #[rq.val (.slice sa 0 sc) (.slice ta 0 tc), rq.val nilS nilS] w fun e w' => e = .returned (.bool true) ∧ Below w.heap.size w w' := by
  refine (samemsg_any rq rq sa ta none none 0 0 0 0 sc tc 0 0 [] [] [] [] w h1 h2 (sl_nil _ _) (sl_nil _ _)).mono ?_
  rw [(sameM_iff rq rq [] [] [] []).2 ⟨rfl, rfl, rfl⟩]
  exact fun e w' h => h
theorem v_cut {c : Code} {Q : Exit → Act → World → Prop} {T : Array Value} {w : World} (J : Array Value → World → Prop) (h : c.wp Tryz.prog (Exit.then (fun a w' => ∃ T', a = ⟨T', []⟩ ∧ J T' w') Q) ⟨T, []⟩ w) (hk : ∀ T' w', J T' w' → Q .normal ⟨T', []⟩ w') : c.wp Tryz.prog Q ⟨T, []⟩ w := by
  refine Code.wp_mono (fun e a' w' h => ?_) h
  cases e with
  | normal =>
    obtain ⟨T', rfl, hJ⟩ := h
    exact hk T' w' hJ
  | _ => exact h
theorem want_t {ops : Array Oper} {T : Array Value} {o : Oper} {k j : Nat} (hg : o.guard = some (k, true)) (hk : (ops[k]?).bind (·.dst) = some j) (hs : T[j]? = some (gw true (.bool true))) : Region.wanted o (yielded ops T) = true := want_g hg hk hs
theorem ex_andT {o : Oper} {T : Array Value} {df : List Deferred} {j x : Nat} {w : World} (ho : o.op = .pick (.tmp j) (.tmp x) (.const (.bool false))) (hj : T[j]? = some (gw true (.bool true))) (hy : T[x]? = some (gw true (.bool true))) : (execOp (⟨T, df⟩ : Act).eval o).run Tryz.prog w = .ok (.value (.bool true)) w := ex_and (c := true) (b := true) (z := true) ho hj hy rfl
theorem eq00 (x y : Operand) (w : World) : (do eqGuard .eql 3 x y (.int .i64 0) (.int .i64 0); binOp .eql 3 (.int .i64 0) (.int .i64 0) : Sem Value).run Tryz.prog w = .ok (.bool true) w := eqlC x y 0 0 w
theorem eq71 (x y : Operand) (w : World) : (do eqGuard .eql 3 x y (.int .i64 71) (.int .i64 71); binOp .eql 3 (.int .i64 71) (.int .i64 71) : Sem Value).run Tryz.prog w = .ok (.bool true) w := eqlC x y 71 71 w
theorem vh_val {ops : Array Oper} {o : Oper} {T : Array Value} {df : List Deferred} {w : World} {Q : Exit → Act → World → Prop} {S : World → Prop} {fuel d n : Nat} {listed : Array Bool} (i : Nat) (V : Value) (w' : World) (hi : ops[i]? = some o) (hr : Region.ready .any ops listed = [i])
    (hw : Region.wanted o (yielded ops T) = true) (he : (execOp (⟨T, df⟩ : Act).eval o).run Tryz.prog w = .ok (.value V) w') (hd : o.dst = some d) (hz : T.size = n) (hn : d < n) (hS : S w')
    (hk : ∀ T' : Array Value, T'.size = n → (∀ j, j ≠ d → T'[j]? = T[j]?) → T'[d]? = some (gw true V) → VH ops Q S fuel (listed.setIfInBounds i true) ⟨T', df⟩ w') : VH ops Q S (fuel + 1) listed ⟨T, df⟩ w := by
  refine ⟨wpAnyH_all hr (by simp) (fun j hj => ?_)⟩
  obtain rfl : j = i := by simpa using hj
  unfold wpOp
  rw [hi]
  simp only [hw, if_true]
  refine .inl ?_
  unfold Oper.wp
  rw [he, Oper.upon_value]
  refine ⟨hS, ?_⟩
  rw [hd]
  exact (hk (T.setIfInBounds d V) (by simp [hz]) (fun i hi => at_set_ne _ hi) (at_set _ (by omega))).out
theorem vh_two {ops : Array Oper} {o o2 : Oper} {T : Array Value} {df : List Deferred} {w : World} {Q : Exit → Act → World → Prop} {S : World → Prop} {fuel d d2 n : Nat} {listed : Array Bool} (i j : Nat) {fid : FuncId} {args : Array Value} {R : Ending → World → Prop} (hr : Region.ready .any ops listed = [i, j]) (hi : ops[i]? = some o) (hj : ops[j]? = some o2)
    (hw : Region.wanted o (yielded ops T) = true) (he : (execOp (⟨T, df⟩ : Act).eval o).run Tryz.prog w = .ok (.enter fid args) w) (hc : Calls Tryz.prog fid args w R) (hd : o.dst = some d) (hz : T.size = n) (hn : d < n)
    (hk : ∀ (e : Ending) (w' : World), R e w' → ∃ V, e = .returned V ∧ S w' ∧ ∀ T' : Array Value, T'.size = n → (∀ j, j ≠ d → T'[j]? = T[j]?) → T'[d]? = some (gw true V) → VH ops Q S fuel (listed.setIfInBounds i true) ⟨T', df⟩ w')
    (V : Value) (w2 : World) (hw2 : Region.wanted o2 (yielded ops T) = true) (he2 : (execOp (⟨T, df⟩ : Act).eval o2).run Tryz.prog w = .ok (.value V) w2) (hd2 : o2.dst = some d2) (hn2 : d2 < n) (hS2 : S w2)
    (hk2 : ∀ T' : Array Value, T'.size = n → (∀ j, j ≠ d2 → T'[j]? = T[j]?) → T'[d2]? = some (gw true V) → VH ops Q S fuel (listed.setIfInBounds j true) ⟨T', df⟩ w2) : VH ops Q S (fuel + 1) listed ⟨T, df⟩ w := by
  refine ⟨wpAnyH_all hr (by simp) (fun k hkm => ?_)⟩
  have hkm : k = i ∨ k = j := by simpa using hkm
  rcases hkm with rfl | rfl
  · unfold wpOp
    rw [hi]
    simp only [hw, if_true]
    refine .inl ?_
    unfold Oper.wp
    rw [he, Oper.upon_enter]
    refine hc.mono ?_
    intro e w' hR
    obtain ⟨V, rfl, hS, hk'⟩ := hk e w' hR
    refine ⟨hS, ?_⟩
    rw [hd]
    exact (hk' (T.setIfInBounds d V) (by simp [hz]) (fun i hi => at_set_ne _ hi) (at_set _ (by omega))).out
  · unfold wpOp
    rw [hj]
    simp only [hw2, if_true]
    refine .inl ?_
    unfold Oper.wp
    rw [he2, Oper.upon_value]
    refine ⟨hS2, ?_⟩
    rw [hd2]
    exact (hk2 (T.setIfInBounds d2 V) (by simp [hz]) (fun i hi => at_set_ne _ hi) (at_set _ (by omega))).out
theorem ex_mk {o : Oper} {ρ : Operand → Value} {s : TypeId} {x y : Operand} {X Y V : Value} {w w' : World} (ho : o.op = .makeSlice s x y) (hx : ρ x = X) (hy : ρ y = Y) (hr : (Instr.makeSlice s X Y).run Tryz.prog w = .ok V w') : (execOp ρ o).run Tryz.prog w = .ok (.value V) w' := by
  unfold execOp
  simp only [ho, hx, hy, Sem.run_bind, hr, Result.andThen_ok]
  rfl
def zV3 : Obj := .cells #[.int .u64 0, .int .u64 0, .int .u64 0, .int .u64 0, .int .u64 0, .int .u64 0] 33
theorem mk3 (w : World) : (Instr.makeSlice 36 (.int .i64 3) (.int .i64 3)).run Tryz.prog w = .ok (.slice (some ⟨w.heap.size, 0, none⟩) 3 3) (w.alloc zV3) := by
  have hinfo : (Tryz.prog.info? 33).map (fun i => (i.zero, i.size, i.bytes)) = some (some (.agg #[.int .u64 0, .int .u64 0]), 2, 16) := by kernel_rfl
  obtain ⟨i0, hi, hz0, hz1, hz2⟩ := info_parts hinfo
  have hr := run_make (P := Tryz.prog) w 36 33 i0 (.agg #[.int .u64 0, .int .u64 0]) Tryz.underlying36 hi hz0 .i64 .i64 3 3 (by omega) (Int.le_refl _) (by rw [hz2]; omega) (by omega)
  rw [hz1] at hr
  have hm : madeCells (Value.agg #[Value.int IntKind.u64 0, Value.int IntKind.u64 0]).cells (Int.toNat 3 * 2) = #[.int .u64 0, .int .u64 0, .int .u64 0, .int .u64 0, .int .u64 0, .int .u64 0] := by kernel_rfl
  rw [hm] at hr
  exact hr
theorem sl3 (w : World) : SlY yD (w.alloc zV3) (some ⟨w.heap.size, 0, none⟩) 3 3 [(0, 0), (0, 0), (0, 0)] := sl_lit kD w [(0, 0), (0, 0), (0, 0)] 33 (by unfold maxLen; decide)
theorem bdCm (g : Nat) (w : World) : (Instr.build 38 #[(0, .int .i64 5), (1, .int .i64 1), (10, .slice (some ⟨g, 0, none⟩) 3 3)]).run Tryz.prog w = .ok (cmB.val nilS (.slice (some ⟨g, 0, none⟩) 3 3)) w := by
  go_simp
  first | done | rfl
theorem bslice13 (W : World) : (Instr.buildSlice 55 13 #[(0, .int .u8 1), (1, .int .u8 1), (2, .int .u8 1), (3, .int .u8 1), (4, .int .u8 1), (5, .int .u8 2), (6, .int .u8 1), (7, .int .u8 1), (8, .int .u8 1), (9, .int .u8 7), (10, .int .u8 1), (11, .int .u8 1), (12, .int .u8 97)]).run Tryz.prog W = .ok (.slice (some ⟨W.heap.size, 0, none⟩) 13 13) (W.alloc (.cells (b13.map (Value.int .u8)).toArray 5)) := by
  go_simp
  first | done | rfl
theorem hs13 (W : World) : Wi.Hs (W.alloc (.cells (b13.map (Value.int .u8)).toArray 5)) (some ⟨W.heap.size, 0, none⟩) 13 13 b13 :=
  ⟨rfl, by decide, fun x hx i hi => by
    obtain rfl := (Option.some.inj hx)
    rw [Addr.add_lit, Nat.zero_add]
    refine cell_box _ _ _ _ _ ?_
    simp [List.getD_eq_getElem?_getD, List.getElem?_eq_getElem hi], (fun h => by cases h), b13_byte⟩
theorem same_fr (a a' : Option Addr) (n c n' c' : Nat) (w : World) (h : Wi.Hs w a n c (M.frame b13)) (h' : Wi.Hs w a' n' c' (M.frame b13)) : Calls Tryz.prog 18 #[.slice a n c, .slice a' n' c'] w fun e w' => e = .returned (.bool true) ∧ w' = w := by
  refine (Wi.same_any a a' n c n' c' _ _ w h h').mono ?_
  rintro e w' ⟨rfl, rfl⟩
  exact ⟨by rw [decide_eq_true rfl], rfl⟩
set_option maxHeartbeats 4000000 in
theorem alive7 (w : World) (hT : Tab w) : Calls Tryz.prog 15 #[] w fun e w' => e = .returned (.bool true) ∧ Below w.heap.size w w' := by
  go_enter Tryz.func15, Tryz.ntmps15
  go_upto_region 1 with fail
  refine wp_region_lit ?_
  refine vl_gen (fun T => T.size = 52) rfl (fun T0 hz => ?_)
  refine vcallP (want_none rfl) (ex_call (args := #[]) rfl (by simp) rfl) (three7_any w) rfl hz (by decide) ?_
  rintro e w1 ⟨rfl, hB1⟩
  refine ⟨_, rfl, fun Ya zz kk s9 => ?_⟩
  replace hz := zz
  clear kk zz
  refine vcallP (want_none rfl) (ex_call (args := #[]) rfl (by simp) rfl) (request7_any w1) rfl hz (by decide) ?_
  rintro e w2 ⟨rfl, hb2⟩
  refine ⟨_, rfl, fun Yb zz kk s10 => ?_⟩
  have hB2 := hB1.trans (hb2.mono hB1.size)
  clear hb2 hB1
  replace s9 := ku s9
  replace hz := zz
  clear kk zz Ya
  refine vcallP (want_none rfl) (ex_call rfl (by simp only [List.map_toArray, List.map_cons, List.map_nil, (ev s9 rfl), (ev s10 rfl), evc] <;> rfl) rfl) (encode_rq w2 (hT.later hB2 hT.lt)) rfl hz (by decide) ?_
  rintro e w3 ⟨af, nf, cf, rfl, hsF, hb3⟩
  refine ⟨_, rfl, fun Yc zz kk s11 => ?_⟩
  have hB3 := hB2.trans (hb3.mono hB2.size)
  clear hb3 hB2
  replace hz := zz
  clear kk zz s9 s10 Yb
  refine vt _ (ex_move rfl (ev s11 rfl)) hz (fun Yd zz kk s8 => ?_)
  replace hz := zz
  clear kk zz s11 Yc
  refine vt (.slice af nf cf) (ex_ext rfl (ev s8 rfl) rfl) hz (fun Ye zz kk s12 => ?_)
  replace s8 := ku s8
  replace hz := zz
  clear kk zz Yd
  refine vt (.int .i64 0) (ex_ext rfl (ev s8 rfl) rfl) hz (fun Yf zz kk s13 => ?_)
  replace s12 := ku s12
  replace hz := zz
  clear kk zz s8 Ye
  refine vt _ (ex_assign rfl (ev s12 rfl)) hz (fun Yg zz kk s1 => ?_)
  replace s13 := ku s13
  replace hz := zz
  clear kk zz s12 Yf
  refine vt _ (ex_assign rfl (ev s13 rfl)) hz (fun Yh zz kk s2 => ?_)
  replace s1 := ku s1
  replace hz := zz
  clear kk zz s13 Yg
  refine wpList_nil ?_
  go_upto_region 2 with fail
  refine wp_region_lit ?_
  obtain ⟨wb, hwb⟩ : ∃ y, y = w3.alloc (.cells (b13.map (Value.int .u8)).toArray 5) := ⟨_, rfl⟩
  have hbb : Below w3.heap.size w3 wb := by rw [hwb]; exact (Below.refl _ _).alloc (Nat.le_refl _) _
  have hSb : Wi.Hs wb (some ⟨w3.heap.size, 0, none⟩) 13 13 b13 := by rw [hwb]; exact hs13 _
  refine vw (.slice (some ⟨w3.heap.size, 0, none⟩) 13 13) wb (want_none rfl) (ex_bs rfl (by simp only [List.map_toArray, List.map_cons, List.map_nil] <;> rfl) (by rw [hwb]; exact bslice13 _)) rfl hz (by decide) (fun Yi zz kk s15 => ?_)
  replace s1 := ku s1
  replace s2 := ku s2
  replace hz := zz
  clear kk zz
  clear hwb
  refine vcallP (want_none rfl) (ex_call rfl (by simp only [List.map_toArray, List.map_cons, List.map_nil, (ev s15 rfl), evc] <;> rfl) rfl) (Wi.refseal_ok _ 13 13 b13 wb hSb (by decide)) rfl hz (by decide) ?_
  rintro e w4 ⟨vw_, rfl, Ow, _, hb4⟩; obtain ⟨aw, nw, cw, rfl, hsW, _⟩ := Ow.hs (M.frame_byte _ b13_byte)
  refine ⟨_, rfl, fun Yj zz kk s16 => ?_⟩
  have hsF4 := (hsF.later hbb).later hb4
  have hBb := hB3.trans (hbb.mono hB3.size)
  have hB4 := hBb.trans (hb4.mono hBb.size)
  clear hb4 hBb hbb hB3 hsF hSb Ow
  replace s1 := ku s1
  replace s2 := ku s2
  replace hz := zz
  clear kk zz s15 Yi
  refine vt _ (ex_move rfl (ev s16 rfl)) hz (fun Yk zz kk s14 => ?_)
  replace s1 := ku s1
  replace s2 := ku s2
  replace hz := zz
  clear kk zz s16 Yj
  refine vt (.slice aw nw cw) (ex_ext rfl (ev s14 rfl) rfl) hz (fun Yl zz kk s17 => ?_)
  replace s1 := ku s1
  replace s2 := ku s2
  replace s14 := ku s14
  replace hz := zz
  clear kk zz Yk
  refine vt (.int .i64 0) (ex_ext rfl (ev s14 rfl) rfl) hz (fun Ym zz kk s18 => ?_)
  replace s1 := ku s1
  replace s2 := ku s2
  replace s17 := ku s17
  replace hz := zz
  clear kk zz s14 Yl
  refine vt _ (ex_assign rfl (ev s17 rfl)) hz (fun Yn zz kk s3 => ?_)
  replace s1 := ku s1
  replace s2 := ku s2
  replace s18 := ku s18
  replace hz := zz
  clear kk zz s17 Ym
  refine vt _ (ex_assign rfl (ev s18 rfl)) hz (fun Yo zz kk s4 => ?_)
  replace s1 := ku s1
  replace s2 := ku s2
  replace s3 := ku s3
  replace hz := zz
  clear kk zz s18 Yn
  refine wpList_nil ?_
  clear s4
  go_upto_region 3 with fail
  refine wp_region_lit ?_
  refine vcallP (want_none rfl) (ex_call (args := #[]) rfl (by simp) rfl) (three7_any w4) rfl hz (by decide) ?_
  rintro e w5 ⟨rfl, hb5⟩
  refine ⟨_, rfl, fun Yp zz kk s20 => ?_⟩
  have hB5 := hB4.trans (hb5.mono hB4.size)
  have hsF5 := hsF4.later hb5
  have hsW5 := hsW.later hb5
  clear hb5 hB4 hsF4 hsW
  replace s1 := ku s1
  replace s2 := ku s2
  replace s3 := ku s3
  replace hz := zz
  clear kk zz
  refine vt _ (ex_move rfl (ev s3 rfl)) hz (fun Yq zz kk s21 => ?_)
  replace s1 := ku s1
  replace s2 := ku s2
  replace s3 := ku s3
  replace s20 := ku s20
  replace hz := zz
  clear kk zz Yp
  refine vcallP (want_none rfl) (ex_call rfl (by simp only [List.map_toArray, List.map_cons, List.map_nil, (ev s20 rfl), (ev s21 rfl), evc] <;> rfl) rfl) (decode_rq aw nw cw w5 hsW5 (hT.later hB5 hT.lt)) rfl hz (by decide) ?_
  rintro e w6 ⟨sa, sc, ta, tc, rfl, hsl1, hsl2, hb6⟩
  refine ⟨_, rfl, fun Yr zz kk s22 => ?_⟩
  have hB6 := hB5.trans (hb6.mono hB5.size)
  have hsF6 := hsF5.later hb6
  have hsW6 := hsW5.later hb6
  clear hb6 hB5 hsF5 hsW5
  obtain ⟨q, hq⟩ : ∃ q, q = w6.heap.size := ⟨_, rfl⟩
  obtain ⟨w7, hw7⟩ : ∃ y, y = w6.alloc (.cells (zG.cs nilS nilS).toArray 38) := ⟨_, rfl⟩
  have hb7 : Below w6.heap.size w6 w7 := by rw [hw7]; exact (Below.refl _ _).alloc (Nat.le_refl _) _
  have M7 : MBox w7 q zG nilS nilS := by rw [hw7, hq]; exact MBox.new0 w6
  replace s1 := ku s1
  replace s2 := ku s2
  replace s3 := ku s3
  replace hz := zz
  clear kk zz s20 s21 Yq
  refine vt _ (ex_move rfl (ev s22 rfl)) hz (fun Ys zz kk s19 => ?_)
  replace s1 := ku s1
  replace s2 := ku s2
  replace s3 := ku s3
  replace hz := zz
  clear kk zz s22 Yr
  refine vt (rq.val (.slice sa 0 sc) (.slice ta 0 tc)) (ex_ext rfl (ev s19 rfl) rfl) hz (fun Yt zz kk s23 => ?_)
  replace s1 := ku s1
  replace s2 := ku s2
  replace s3 := ku s3
  replace s19 := ku s19
  replace hz := zz
  clear kk zz Ys
  refine vt (.int .i64 0) (ex_ext rfl (ev s19 rfl) rfl) hz (fun Yu zz kk s24 => ?_)
  replace s1 := ku s1
  replace s2 := ku s2
  replace s3 := ku s3
  replace s23 := ku s23
  replace hz := zz
  clear kk zz s19 Yt
  refine vw (.pointer (some ⟨q, 0, none⟩)) w7 (want_none rfl) (ex_al rfl (by rw [hw7, hq]; exact alM _)) rfl hz (by decide) (fun Yv zz kk s5 => ?_)
  replace s1 := ku s1
  replace s2 := ku s2
  replace s3 := ku s3
  replace s23 := ku s23
  replace s24 := ku s24
  replace hz := zz
  clear kk zz Yu
  refine vs (sets w7 q 0 (rq.cs (.slice sa 0 sc) (.slice ta 0 tc))) (want_none rfl) (ex_st rfl (ev s5 rfl) (ev s23 rfl) (stM M7 rq (.slice sa 0 sc) (.slice ta 0 tc) rfl rfl)) rfl ?_
  have SP := M7.putU rq (.slice sa 0 sc) (.slice ta 0 tc)
  obtain ⟨w8, hw8⟩ : ∃ y, y = sets w7 q 0 (rq.cs (.slice sa 0 sc) (.slice ta 0 tc)) := ⟨_, rfl⟩
  rw [← hw8] at SP ⊢
  clear hw8 hw7
  have hb8 : Below w6.heap.size w6 w8 := hb7.trans (SP.2.below hb7.size (by omega))
  have hB8 := hB6.trans (hb8.mono hB6.size)
  have hsF8 := hsF6.later hb8
  have hsW8 := hsW6.later hb8
  have hl1 := hsl1.later hb8
  have hl2 := hsl2.later hb8
  have M8 := SP.1
  have hT8 := hT.later hB8 hT.lt
  clear SP hb8 hb7 M7 hB6 hsF6 hsW6 hsl1 hsl2
  refine vt _ (ex_assign rfl (ev s24 rfl)) hz (fun Yw zz kk s6 => ?_)
  replace s1 := ku s1
  replace s2 := ku s2
  replace s3 := ku s3
  replace s5 := ku s5
  replace hz := zz
  clear kk zz s23 s24 Yv
  refine wpList_nil ?_
  go_upto_region 4 with fail
  refine v_cut (fun T v => T.size = 52 ∧ T[1]? = some (gw true (.slice af nf cf)) ∧ T[2]? = some (gw true (.int .i64 0)) ∧ T[3]? = some (gw true (.slice aw nw cw)) ∧ T[5]? = some (gw true (.pointer (some ⟨q, 0, none⟩))) ∧ T[6]? = some (gw true (.int .i64 0)) ∧ T[7]? = some (gw true (.int .i64 71)) ∧ Below w8.heap.size w8 v) ?_ ?_
  rotate_left
  · rintro T4 w9 ⟨hz, s1, s2, s3, s5, s6, s7, hb9⟩
    have M9 := M8.bel hb9
    have hsF9 := hsF8.later hb9
    have hsW9 := hsW8.later hb9
    have k1 := hl1.later hb9
    have k2 := hl2.later hb9
    have hB9 := hB8.trans (hb9.mono hB8.size)
    clear hb9 hsF8 hsW8 hl1 hl2 hB8 hT8 M8
    go_upto_region 5 with fail
    refine vh_start (fun v => Below w9.heap.size w9 v) (by kernel_rfl) ?_
    have hS : Below w9.heap.size w9 w9.drew := (Below.refl _ _).drew
    refine vh_take 0 true (.int .i64 0) rfl (by kernel_rfl) (by kernel_rfl) (by kernel_rfl) (want_none rfl) (fun hc v hv => ex_move rfl (ev s2 rfl)) rfl hz (by decide) hS (fun Yx zz kk s29 => ?_)
    replace s1 := ku s1
    replace s3 := ku s3
    replace s5 := ku s5
    replace s6 := ku s6
    replace s7 := ku s7
    replace hz := zz
    clear kk zz s2
    refine vh_call 1 rfl (by kernel_rfl) (want_none rfl) (ex_call rfl (by simp only [List.map_toArray, List.map_cons, List.map_nil, (ev s29 rfl), evc] <;> rfl) rfl) (num7_any 0 _) rfl hz (by decide) ?_
    rintro e y1 ⟨rfl, rfl⟩
    refine ⟨_, rfl, hS, fun Yy zz kk s30 => ?_⟩
    replace s1 := ku s1
    replace s3 := ku s3
    replace s5 := ku s5
    replace s6 := ku s6
    replace s7 := ku s7
    replace hz := zz
    clear kk zz s29 Yx
    refine vh_take 2 true (.bool true) rfl (by kernel_rfl) (by kernel_rfl) (by kernel_rfl) (want_none rfl) (fun hc v hv => ex_bin rfl (ev s30 rfl) rfl (eq00 _ _ _)) rfl hz (by decide) hS (fun Yz zz kk s31 => ?_)
    replace s1 := ku s1
    replace s3 := ku s3
    replace s5 := ku s5
    replace s6 := ku s6
    replace s7 := ku s7
    replace hz := zz
    clear kk zz s30 Yy
    refine vh_take 3 true (.bool true) rfl (by kernel_rfl) (by kernel_rfl) (by kernel_rfl) (want_none rfl) (fun hc v hv => ex_move rfl (ev s31 rfl)) rfl hz (by decide) hS (fun Y0 zz kk s32 => ?_)
    replace s1 := ku s1
    replace s3 := ku s3
    replace s5 := ku s5
    replace s6 := ku s6
    replace s7 := ku s7
    replace hz := zz
    clear kk zz s31 Yz
    refine vh_take 4 true (.slice af nf cf) rfl (by kernel_rfl) (by kernel_rfl) (by kernel_rfl) (want_t rfl rfl s32) (fun hc v hv => ex_move rfl (ev s1 rfl)) rfl hz (by decide) hS (fun Y1 zz kk s33 => ?_)
    replace s3 := ku s3
    replace s5 := ku s5
    replace s6 := ku s6
    replace s7 := ku s7
    replace s32 := ku s32
    replace hz := zz
    clear kk zz s1 Y0
    refine vh_take 5 true (.slice aw nw cw) rfl (by kernel_rfl) (by kernel_rfl) (by kernel_rfl) (want_t rfl rfl s32) (fun hc v hv => ex_move rfl (ev s3 rfl)) rfl hz (by decide) hS (fun Y2 zz kk s34 => ?_)
    replace s5 := ku s5
    replace s6 := ku s6
    replace s7 := ku s7
    replace s32 := ku s32
    replace s33 := ku s33
    replace hz := zz
    clear kk zz s3 Y1
    refine vh_call 6 rfl (by kernel_rfl) (want_t rfl rfl s32) (ex_call rfl (by simp only [List.map_toArray, List.map_cons, List.map_nil, (ev s33 rfl), (ev s34 rfl), evc] <;> rfl) rfl) (same_fr af aw nf cf nw cw _ (hsF9.later hS) (hsW9.later hS)) rfl hz (by decide) ?_
    rintro e y2 ⟨rfl, rfl⟩
    refine ⟨_, rfl, hS, fun Y3 zz kk s35 => ?_⟩
    replace s5 := ku s5
    replace s6 := ku s6
    replace s7 := ku s7
    replace s32 := ku s32
    replace hz := zz
    clear kk zz s33 s34 Y2
    refine vh_take 7 true (.bool true) rfl (by kernel_rfl) (by kernel_rfl) (by kernel_rfl) (want_none rfl) (fun hc v hv => ex_andT rfl s32 s35) rfl hz (by decide) hS (fun Y4 zz kk s36 => ?_)
    replace s5 := ku s5
    replace s6 := ku s6
    replace s7 := ku s7
    replace hz := zz
    clear kk zz s32 s35 Y3
    refine vh_take 8 true (.bool true) rfl (by kernel_rfl) (by kernel_rfl) (by kernel_rfl) (want_none rfl) (fun hc v hv => ex_move rfl (ev s36 rfl)) rfl hz (by decide) hS (fun Y5 zz kk s37 => ?_)
    replace s5 := ku s5
    replace s6 := ku s6
    replace s7 := ku s7
    replace hz := zz
    clear kk zz s36 Y4
    refine vh_take 9 true (.int .i64 0) rfl (by kernel_rfl) (by kernel_rfl) (by kernel_rfl) (want_t rfl rfl s37) (fun hc v hv => ex_move rfl (ev s6 rfl)) rfl hz (by decide) hS (fun Y6 zz kk s38 => ?_)
    replace s5 := ku s5
    replace s7 := ku s7
    replace s37 := ku s37
    replace hz := zz
    clear kk zz s6 Y5
    refine vh_call 10 rfl (by kernel_rfl) (want_t rfl rfl s37) (ex_call rfl (by simp only [List.map_toArray, List.map_cons, List.map_nil, (ev s38 rfl), evc] <;> rfl) rfl) (num7_any 0 _) rfl hz (by decide) ?_
    rintro e y3 ⟨rfl, rfl⟩
    refine ⟨_, rfl, hS, fun Y7 zz kk s39 => ?_⟩
    replace s5 := ku s5
    replace s7 := ku s7
    replace s37 := ku s37
    replace hz := zz
    clear kk zz s38 Y6
    refine vh_take 11 true (.bool true) rfl (by kernel_rfl) (by kernel_rfl) (by kernel_rfl) (want_t rfl rfl s37) (fun hc v hv => ex_bin rfl (ev s39 rfl) rfl (eq00 _ _ _)) rfl hz (by decide) hS (fun Y8 zz kk s40 => ?_)
    replace s5 := ku s5
    replace s7 := ku s7
    replace s37 := ku s37
    replace hz := zz
    clear kk zz s39 Y7
    refine vh_take 12 true (.bool true) rfl (by kernel_rfl) (by kernel_rfl) (by kernel_rfl) (want_none rfl) (fun hc v hv => ex_andT rfl s37 s40) rfl hz (by decide) hS (fun Y9 zz kk s41 => ?_)
    replace s5 := ku s5
    replace s7 := ku s7
    replace hz := zz
    clear kk zz s37 s40 Y8
    refine vh_take 13 true (.bool true) rfl (by kernel_rfl) (by kernel_rfl) (by kernel_rfl) (want_none rfl) (fun hc v hv => ex_move rfl (ev s41 rfl)) rfl hz (by decide) hS (fun Yba zz kk s42 => ?_)
    replace s5 := ku s5
    replace s7 := ku s7
    replace hz := zz
    clear kk zz s41 Y9
    refine vh_take 14 true (rq.val (.slice sa 0 sc) (.slice ta 0 tc)) rfl (by kernel_rfl) (by kernel_rfl) (by kernel_rfl) (want_t rfl rfl s42) (fun hc v hv => ex_ld rfl (ev s5 rfl) ((M9.bel hv).ldAll)) rfl hz (by decide) hS (fun Ybb zz kk s43 => ?_)
    replace s7 := ku s7
    replace s42 := ku s42
    replace hz := zz
    clear kk zz s5 Yba
    refine vh_call 15 rfl (by kernel_rfl) (want_t rfl rfl s42) (ex_call (args := #[]) rfl (by simp) rfl) (request7_any _) rfl hz (by decide) ?_
    rintro e y4 ⟨rfl, hb4⟩
    refine ⟨_, rfl, (hS.trans (hb4.mono hS.size)), fun Ybc zz kk s44 => ?_⟩
    replace hS := hS.trans (hb4.mono hS.size)
    clear hb4
    replace s7 := ku s7
    replace s42 := ku s42
    replace s43 := ku s43
    replace hz := zz
    clear kk zz Ybb
    refine vh_call 16 rfl (by kernel_rfl) (want_t rfl rfl s42) (ex_call rfl (by simp only [List.map_toArray, List.map_cons, List.map_nil, (ev s43 rfl), (ev s44 rfl), evc] <;> rfl) rfl) (same_rq sa ta sc tc _ (k1.later hS) (k2.later hS)) rfl hz (by decide) ?_
    rintro e y5 ⟨rfl, hb5⟩
    refine ⟨_, rfl, (hS.trans (hb5.mono hS.size)), fun Ybd zz kk s45 => ?_⟩
    replace hS := hS.trans (hb5.mono hS.size)
    clear hb5
    replace s7 := ku s7
    replace s42 := ku s42
    replace hz := zz
    clear kk zz s43 s44 Ybc
    refine vh_take 17 true (.bool true) rfl (by kernel_rfl) (by kernel_rfl) (by kernel_rfl) (want_none rfl) (fun hc v hv => ex_andT rfl s42 s45) rfl hz (by decide) hS (fun Ybe zz kk s46 => ?_)
    replace s7 := ku s7
    replace hz := zz
    clear kk zz s42 s45 Ybd
    refine vh_take 18 true (.bool true) rfl (by kernel_rfl) (by kernel_rfl) (by kernel_rfl) (want_none rfl) (fun hc v hv => ex_move rfl (ev s46 rfl)) rfl hz (by decide) hS (fun Ybf zz kk s47 => ?_)
    replace s7 := ku s7
    replace hz := zz
    clear kk zz s46 Ybe
    refine vh_take 19 true (.int .i64 71) rfl (by kernel_rfl) (by kernel_rfl) (by kernel_rfl) (want_t rfl rfl s47) (fun hc v hv => ex_move rfl (ev s7 rfl)) rfl hz (by decide) hS (fun Ybg zz kk s48 => ?_)
    replace s47 := ku s47
    replace hz := zz
    clear kk zz s7 Ybf
    refine vh_call 20 rfl (by kernel_rfl) (want_t rfl rfl s47) (ex_call rfl (by simp only [List.map_toArray, List.map_cons, List.map_nil, (ev s48 rfl), evc] <;> rfl) rfl) (num7_any 71 _) rfl hz (by decide) ?_
    rintro e y6 ⟨rfl, rfl⟩
    refine ⟨_, rfl, hS, fun Ybh zz kk s49 => ?_⟩
    replace s47 := ku s47
    replace hz := zz
    clear kk zz s48 Ybg
    refine vh_take 21 true (.bool true) rfl (by kernel_rfl) (by kernel_rfl) (by kernel_rfl) (want_t rfl rfl s47) (fun hc v hv => ex_bin rfl (ev s49 rfl) rfl (eq71 _ _ _)) rfl hz (by decide) hS (fun Ybi zz kk s50 => ?_)
    replace s47 := ku s47
    replace hz := zz
    clear kk zz s49 Ybh
    refine vh_take 22 true (.bool true) rfl (by kernel_rfl) (by kernel_rfl) (by kernel_rfl) (want_none rfl) (fun hc v hv => ex_andT rfl s47 s50) rfl hz (by decide) hS (fun Ybj zz kk s51 => ?_)
    replace hz := zz
    clear kk zz s47 s50 Ybi
    refine vh_take 23 true (.bool true) rfl (by kernel_rfl) (by kernel_rfl) (by kernel_rfl) (want_none rfl) (fun hc v hv => ex_assign rfl (ev s51 rfl)) rfl hz (by decide) hS (fun Ybk zz kk s0 => ?_)
    replace hz := zz
    clear kk zz s51 Ybj
    refine vh_done (by kernel_rfl) ?_
    have hfin := hB9.trans (hS.mono hB9.size)
    go_wp2
    refine bodyPost_ret (results_tmp rfl _ _ _) rfl ⟨?_, hfin⟩
    rw [getD_of s0]
    rfl
  refine vh_start (fun v => Below w8.heap.size w8 v) (by kernel_rfl) ?_
  have hS : Below w8.heap.size w8 w8.drew := (Below.refl _ _).drew
  refine vh_two 0 1 (by kernel_rfl) rfl rfl (want_none rfl) (ex_call (args := #[]) rfl (by simp) rfl) (three7_any _) rfl hz (by decide) ?_ (.slice (some ⟨w8.drew.heap.size, 0, none⟩) 3 3) (w8.drew.alloc zV3) (want_none rfl) (ex_mk rfl rfl rfl (mk3 _)) rfl (by decide) (hS.alloc hS.size _) ?_
  · rintro e y1 ⟨rfl, hb1⟩
    refine ⟨_, rfl, hS.trans (hb1.mono hS.size), fun Ta zz kk s25 => ?_⟩
    replace hS := hS.trans (hb1.mono hS.size)
    replace s1 := ku s1
    replace s2 := ku s2
    replace s3 := ku s3
    replace s5 := ku s5
    replace s6 := ku s6
    replace hz := zz
    clear kk zz
    refine vh_val 1 (.slice (some ⟨y1.heap.size, 0, none⟩) 3 3) (y1.alloc zV3) rfl (by kernel_rfl) (want_none rfl) (ex_mk rfl rfl rfl (mk3 _)) rfl hz (by decide) (hS.alloc hS.size _) (fun Te zz kk s26 => ?_)
    have hsl := sl3 y1
    replace hS := hS.alloc hS.size zV3
    replace s1 := ku s1
    replace s2 := ku s2
    replace s3 := ku s3
    replace s5 := ku s5
    replace s6 := ku s6
    replace s25 := ku s25
    replace hz := zz
    clear kk zz
    refine vh_take 2 true (cmB.val nilS (.slice (some ⟨y1.heap.size, 0, none⟩) 3 3)) rfl (by kernel_rfl) (by kernel_rfl) (by kernel_rfl) (want_none rfl) (fun hc v hv => ex_buildP rfl (by simp only [List.map_toArray, List.map_cons, List.map_nil, (ev s26 rfl)] <;> rfl) (bdCm _ _)) rfl hz (by decide) hS (fun Tb zz kk s27 => ?_)
    replace s1 := ku s1
    replace s2 := ku s2
    replace s3 := ku s3
    replace s5 := ku s5
    replace s6 := ku s6
    replace s25 := ku s25
    replace hz := zz
    clear kk zz
    refine vh_call 3 rfl (by kernel_rfl) (want_none rfl) (ex_call rfl (by simp only [List.map_toArray, List.map_cons, List.map_nil, (ev s25 rfl), (ev s27 rfl), evc] <;> rfl) rfl) (check_cm y1.heap.size _ (hT8.later hS hT8.lt) hsl) rfl hz (by decide) ?_
    rintro e y2 ⟨rfl, hbz⟩
    refine ⟨_, rfl, hS.trans (hbz.mono hS.size), fun Tc zz kk s28 => ?_⟩
    replace hS := hS.trans (hbz.mono hS.size)
    replace s1 := ku s1
    replace s2 := ku s2
    replace s3 := ku s3
    replace s5 := ku s5
    replace s6 := ku s6
    replace hz := zz
    clear kk zz
    refine vh_take 4 true (.int .i64 71) rfl (by kernel_rfl) (by kernel_rfl) (by kernel_rfl) (want_none rfl) (fun hc v hv => ex_assign rfl (ev s28 rfl)) rfl hz (by decide) hS (fun Td zz kk s7 => ?_)
    replace s1 := ku s1
    replace s2 := ku s2
    replace s3 := ku s3
    replace s5 := ku s5
    replace s6 := ku s6
    replace hz := zz
    clear kk zz
    refine vh_done (by kernel_rfl) ?_
    exact ⟨_, rfl, hz, s1, s2, s3, s5, s6, s7, hS⟩
  · intro Ta zz kk s26x
    have hsl := sl3 w8.drew
    replace hS := hS.alloc hS.size zV3
    replace s1 := ku s1
    replace s2 := ku s2
    replace s3 := ku s3
    replace s5 := ku s5
    replace s6 := ku s6
    clear kk hz
    have hz := zz
    have s26 := s26x
    clear zz s26x
    refine vh_take 2 true (cmB.val nilS (.slice (some ⟨w8.drew.heap.size, 0, none⟩) 3 3)) rfl (by kernel_rfl) (by kernel_rfl) (by kernel_rfl) (want_none rfl) (fun hc v hv => ex_buildP rfl (by simp only [List.map_toArray, List.map_cons, List.map_nil, (ev s26 rfl)] <;> rfl) (bdCm _ _)) rfl hz (by decide) hS (fun Tb zz kk s27 => ?_)
    replace s1 := ku s1
    replace s2 := ku s2
    replace s3 := ku s3
    replace s5 := ku s5
    replace s6 := ku s6
    replace hz := zz
    clear kk zz
    refine vh_call 0 rfl (by kernel_rfl) (want_none rfl) (ex_call (args := #[]) rfl (by simp) rfl) (three7_any _) rfl hz (by decide) ?_
    rintro e y1 ⟨rfl, hb1⟩
    refine ⟨_, rfl, hS.trans (hb1.mono hS.size), fun Tf zz kk s25 => ?_⟩
    replace hS := hS.trans (hb1.mono hS.size)
    replace s1 := ku s1
    replace s2 := ku s2
    replace s3 := ku s3
    replace s5 := ku s5
    replace s6 := ku s6
    replace s27 := ku s27
    replace hz := zz
    clear kk zz
    refine vh_call 3 rfl (by kernel_rfl) (want_none rfl) (ex_call rfl (by simp only [List.map_toArray, List.map_cons, List.map_nil, (ev s25 rfl), (ev s27 rfl), evc] <;> rfl) rfl) (check_cm w8.drew.heap.size _ (hT8.later hS hT8.lt) (hsl.later hb1)) rfl hz (by decide) ?_
    rintro e y2 ⟨rfl, hbz⟩
    refine ⟨_, rfl, hS.trans (hbz.mono hS.size), fun Tc zz kk s28 => ?_⟩
    replace hS := hS.trans (hbz.mono hS.size)
    replace s1 := ku s1
    replace s2 := ku s2
    replace s3 := ku s3
    replace s5 := ku s5
    replace s6 := ku s6
    replace hz := zz
    clear kk zz
    refine vh_take 4 true (.int .i64 71) rfl (by kernel_rfl) (by kernel_rfl) (by kernel_rfl) (want_none rfl) (fun hc v hv => ex_assign rfl (ev s28 rfl)) rfl hz (by decide) hS (fun Td zz kk s7 => ?_)
    replace s1 := ku s1
    replace s2 := ku s2
    replace s3 := ku s3
    replace s5 := ku s5
    replace s6 := ku s6
    replace hz := zz
    clear kk zz
    refine vh_done (by kernel_rfl) ?_
    exact ⟨_, rfl, hz, s1, s2, s3, s5, s6, s7, hS⟩
/-! What the document's Decode needs. -/
theorem us_tab7 {k : Nat} (hk : kdB (k : Int) = true) : ∀ j, j < 10 → (usL (k : Int))[j]? = some (!decide ((tabA k j : Int) = 0)) := by
  have h := inR_iff.1 hk
  have : k = 1 ∨ k = 2 ∨ k = 3 ∨ k = 4 ∨ k = 5 ∨ k = 6 ∨ k = 7 ∨ k = 8 ∨ k = 9 ∨ k = 10 ∨ k = 11 ∨ k = 12 ∨ k = 13 ∨ k = 14 := by omega
  rcases this with rfl | rfl | rfl | rfl | rfl | rfl | rfl | rfl | rfl | rfl | rfl | rfl | rfl | rfl <;> decide
theorem us_len {k : Nat} (hk : kdB (k : Int) = true) : (usL (k : Int)).length = 10 := by
  have h := inR_iff.1 hk
  have : k = 1 ∨ k = 2 ∨ k = 3 ∨ k = 4 ∨ k = 5 ∨ k = 6 ∨ k = 7 ∨ k = 8 ∨ k = 9 ∨ k = 10 ∨ k = 11 ∨ k = 12 ∨ k = 13 ∨ k = 14 := by omega
  rcases this with rfl | rfl | rfl | rfl | rfl | rfl | rfl | rfl | rfl | rfl | rfl | rfl | rfl | rfl <;> decide
theorem us_op {k : Nat} (hk : kdB (k : Int) = true) (h6 : ¬ tabA k 6 = 0) : (!decide ((tabA k 6 : Int) = 15)) = (!decide ((k : Int) = 2) && !decide ((k : Int) = 14)) := by
  have h := inR_iff.1 hk
  have : k = 1 ∨ k = 2 ∨ k = 3 ∨ k = 4 ∨ k = 5 ∨ k = 6 ∨ k = 7 ∨ k = 8 ∨ k = 9 ∨ k = 10 ∨ k = 11 ∨ k = 12 ∨ k = 13 ∨ k = 14 := by omega
  rcases this with rfl | rfl | rfl | rfl | rfl | rfl | rfl | rfl | rfl | rfl | rfl | rfl | rfl | rfl <;> revert h6 <;> decide
def rEo (op : Bool) (l : List Int) (s : Nat × Int) : En := if op then rE l s else ⟨(rI mxI l s : Int), (rI mxI l (sI mxI l s) : Int), ⟨0, 0, ⟨#[]⟩⟩⟩
def sEo (op : Bool) (l : List Int) (s : Nat × Int) : Nat × Int := if op then sE l s else s2 l s
def enV (e : En) : Value := .agg #[.int .i64 e.c, .int .i64 e.n, .int .i64 e.o.k, .int .i64 e.o.s, .string e.o.v]
theorem qentry2 (N b : Nat) (op : Bool) (l : List Int) (s : Nat × Int) (w : World) (h : QD N w b l s) : Calls Tryz.prog 56 #[.pointer (some ⟨b, 0, none⟩), .bool op] w fun e w' => e = .returned (enV (rEo op l s)) ∧ QD N w' b l (sEo op l s) ∧ UB b w w' := by
  refine (qentry_any N b op l s w h).mono ?_
  cases op <;> rintro e w' ⟨rfl, h2, h3⟩ <;> exact ⟨rfl, h2, h3⟩
theorem rCol6 (l : List Int) (x : Rst) (op : Bool) : rCol l x 6 op = ⟨{ x.m with e := rEo op l x.s }, x.L, x.D, sEo op l x.s⟩ := by
  cases op <;> rfl
theorem QD.ldErr {N : Nat} {w : World} {b : Nat} {l : List Int} {s : Nat × Int} (h : QD N w b l s) : (Instr.loadAt 3 (.pointer (some ⟨b, 2, none⟩))).run Tryz.prog w = .ok (.int .i64 s.2) w := by
  obtain ⟨a, n, c, q, _⟩ := h
  have h2 := q.c2
  clear q
  go_simp
theorem faErr (b : Nat) (w : World) : (Instr.fieldAt 122 (.pointer (some ⟨b, 0, none⟩)) 2).run Tryz.prog w = .ok (.pointer (some ⟨b, 2, none⟩)) w := by go_simp
theorem bdQ (a : Option Addr) (n c : Nat) (w : World) : (Instr.build 122 #[(0, .slice a n c)]).run Tryz.prog w = .ok (.agg #[.slice a n c, .int .i64 0, .int .i64 0]) w := by go_simp
theorem bxQ (a : Option Addr) (n c : Nat) (w : World) : (Instr.box 122 (.agg #[.slice a n c, .int .i64 0, .int .i64 0])).run Tryz.prog w = .ok (.pointer (some ⟨w.heap.size, 0, none⟩)) (w.alloc (.cells #[.slice a n c, .int .i64 0, .int .i64 0] 122)) := by
  go_simp
  first | done | rfl
theorem QD.new {B : Nat} {w : World} {a : Option Addr} {n c : Nat} {l : List Int} (h : Wi.Own B w (.slice a n c) l) (hb : ∀ z ∈ l, 0 ≤ z ∧ z < 256) (hl : l.length ≤ 9223372036854775807) : QD (w.heap.size + 1) (w.alloc (.cells #[.slice a n c, .int .i64 0, .int .i64 0] 122)) w.heap.size l (0, 0) := by
  obtain ⟨a', n', c', e, hs, ha⟩ := Wi.Own.hs h hb
  injection e with e1 e2 e3
  subst e1 e2 e3
  have hb' := (Below.refl w.heap.size w).alloc (Nat.le_refl _) (.cells #[.slice a n c, .int .i64 0, .int .i64 0] 122)
  have hn := hs.len
  refine ⟨a, n, c, ⟨by simp, by go_simp, by go_simp, by go_simp, by go_simp, by go_simp, Nat.zero_le _⟩, hs.later hb', by omega, by omega, by simp, fun x hx h0 => ?_⟩
  rcases h.2 with ⟨_, h2⟩ | ⟨g, cap, cur, h1, h2, h3, _⟩
  · omega
  · injection h1 with h4 _ _
    rw [h4] at hx
    cases hx
    have hg : g < w.heap.size := (Array.getElem?_eq_some_iff.1 h3).1
    exact ⟨g, 0, rfl, by omega, by omega⟩
theorem qd_End (N b : Nat) (l : List Int) (s : Nat × Int) (w : World) (h : QD N w b l s) : Calls Tryz.prog 58 #[.pointer (some ⟨b, 0, none⟩)] w fun e w' => e = .returned (.int .i64 (Wi.endErr l.length s.1 s.2)) ∧ Below w.heap.size w w' := by
  obtain ⟨a, n, c, q, hh, hn, _⟩ := h
  have := Wi.rq_end b a n c s.1 s.2 w q hn
  rw [← hh.len] at this
  refine this.mono ?_
  rintro e w' ⟨rfl, k, rfl⟩
  exact ⟨rfl, belN (Below.refl _ _) k⟩
def yJ : Lay Int := ⟨3, 103, 1, 8, fun x => [.int .i64 x], 0⟩
theorem kJ : yJ.Ok := ⟨by decide, fun x => rfl, fun x u h => by
    simp [yJ] at h
    subst h
    rfl, Tryz.underlying103, ⟨.int .i64 0, by kernel_rfl, rfl⟩⟩
theorem ixJ (g j n cu : Nat) (hj : j < n) (w : World) : (Instr.indexAt 103 (.slice (some ⟨g, 0, none⟩) n cu) (.int .i64 (j : Int))).run Tryz.prog w = .ok (.pointer (some ⟨g, j, none⟩)) w := by
  have h1 : (j : Int) < (n : Int) := by omega
  go_simp
theorem ldJ {w : World} {g j : Nat} {z : Int} (h : w.cell? ⟨g, j, none⟩ = some (.int .i64 z)) : (Instr.loadAt 3 (.pointer (some ⟨g, j, none⟩))).run Tryz.prog w = .ok (.int .i64 z) w := by go_simp
theorem stJ {w : World} {g j : Nat} {y : Value} (h : w.cell? ⟨g, j, none⟩ = some y) (hf : w.frozen? ⟨g, j, none⟩ = false) (z : Int) : (Instr.storeAt 3 (.pointer (some ⟨g, j, none⟩)) (.int .i64 z)).run Tryz.prog w = .ok () (w.setCell ⟨g, j, none⟩ (.int .i64 z)) := by go_simp
theorem OwnY.intJ {B : Nat} {w : World} {g n c : Nat} {L : List Int} (h : OwnY yJ B w (.slice (some ⟨g, 0, none⟩) n c) L) {j : Nat} {x : Int} (hx : L[j]? = some x) : w.cell? ⟨g, j, none⟩ = some (.int .i64 x) := by
  have := OwnY.cell kJ h j x hx 0 _ rfl
  rw [show j * yJ.k + 0 = j by show j * 1 + 0 = j; omega] at this
  exact this
theorem OwnY.setJ {B : Nat} {w : World} {g n c : Nat} {L : List Int} (h : OwnY yJ B w (.slice (some ⟨g, 0, none⟩) n c) L) {j : Nat} (hj : j < L.length) (x : Int) : OwnY yJ B (w.setCell ⟨g, j, none⟩ (.int .i64 x)) (.slice (some ⟨g, 0, none⟩) n c) (L.set j x) := by
  have := OwnY.set1 kJ h (List.getElem?_eq_getElem hj) x 0 (.int .i64 x) (by decide) rfl
  rw [show j * yJ.k + 0 = j by show j * 1 + 0 = j; omega] at this
  exact this
theorem run_mk5 (w : World) : ∃ w', (Instr.makeSlice 103 (.int .i64 5) (.int .i64 5)).run Tryz.prog w = .ok (.slice (some ⟨w.heap.size, 0, none⟩) 5 5) w' ∧ OwnY yJ w.heap.size w' (.slice (some ⟨w.heap.size, 0, none⟩) 5 5) (List.replicate 5 0) ∧ Below w.heap.size w w' := by
  obtain ⟨zv, hinfo, hzc⟩ := kJ.info
  obtain ⟨i0, hi, hz0, hz1, hz2⟩ := info_parts hinfo
  have hr := run_make (P := Tryz.prog) w 103 3 i0 zv kJ.und hi hz0 .i64 .i64 ((5 : Nat) : Int) ((5 : Nat) : Int) (by omega) (Int.le_refl _) (room_int hz2 (show 5 * 8 ≤ 140737488355328 by omega)) (by omega)
  rw [Int.toNat_natCast, hz1] at hr
  refine ⟨_, hr, ?_, (Below.refl _ _).alloc (Nat.le_refl _) _⟩
  show OwnY yJ w.heap.size _ _ (List.replicate 5 yJ.z)
  unfold OwnY
  rw [List.length_replicate, ← madeY kJ hzc]
  exact World.ownsRow_lit w _ 5 (Nat.le_refl _) (by unfold maxLen; omega) (size_madeCells _ _)
def nmL (m : Mg) : List Int := [m.nd, m.vw, m.ls, m.p, m.cm]
theorem nm_set (l : List Int) (x : Rst) (op : Bool) {j : Nat} (hj : j < 5) : nmL (rCol l x j op).m = (nmL x.m).set j (rI mxI l x.s : Int) ∧ (rCol l x j op).s = sI mxI l x.s := by
  have : j = 0 ∨ j = 1 ∨ j = 2 ∨ j = 3 ∨ j = 4 := by omega
  rcases this with rfl | rfl | rfl | rfl | rfl <;> exact ⟨rfl, rfl⟩
def set5 (m : Mg) (y : Mg) : Mg := { m with nd := y.nd, vw := y.vw, ls := y.ls, p := y.p, cm := y.cm }
theorem rc5 (l : List Int) (k : Nat) (x : Rst) : ∀ j, j ≤ 5 → (rCols l k x j).m = set5 x.m (rCols l k x j).m ∧ (rCols l k x j).L = x.L ∧ (rCols l k x j).D = x.D
  | 0, _ => ⟨rfl, rfl, rfl⟩
  | j + 1, h => by
    obtain ⟨h1, h2, h3⟩ := rc5 l k x j (by omega)
    by_cases ht : tabA k j = 0
    · rw [rCols_none ht]
      exact ⟨h1, h2, h3⟩
    · rw [rCols_some ht]
      generalize rCols l k x j = y at *
      obtain ⟨ym, yL, yD, ys⟩ := y
      dsimp only at h1 h2 h3
      subst h2 h3
      have : j = 0 ∨ j = 1 ∨ j = 2 ∨ j = 3 ∨ j = 4 := by omega
      rcases this with rfl | rfl | rfl | rfl | rfl <;> refine ⟨?_, rfl, rfl⟩ <;> (rw [h1]; rfl)
theorem faRes (q : Nat) (w : World) : (Instr.fieldAt 30 (.pointer (some ⟨q, 8, none⟩)) 0).run Tryz.prog w = .ok (.pointer (some ⟨q, 8, none⟩)) w ∧ (Instr.fieldAt 30 (.pointer (some ⟨q, 8, none⟩)) 1).run Tryz.prog w = .ok (.pointer (some ⟨q, 9, none⟩)) w ∧ (Instr.fieldAt 30 (.pointer (some ⟨q, 8, none⟩)) 2).run Tryz.prog w = .ok (.pointer (some ⟨q, 10, none⟩)) w := ⟨by go_simp, by go_simp, by go_simp⟩
theorem bsE (e : En) (w : World) : (Instr.buildSlice 34 1 #[(0, enV e)]).run Tryz.prog w = .ok (.slice (some ⟨w.heap.size, 0, none⟩) 1 1) (w.alloc (.cells (yE.cs e).toArray 28)) := by
  unfold enV
  go_simp
  first | done | rfl
theorem bsD (d : Int × Int) (w : World) : (Instr.buildSlice 36 1 #[(0, .agg #[.int .u64 d.1, .int .u64 d.2])]).run Tryz.prog w = .ok (.slice (some ⟨w.heap.size, 0, none⟩) 1 1) (w.alloc (.cells (yD.cs d).toArray 33)) := by
  go_simp
  first | done | rfl
theorem ex_app {o : Oper} {T : Array Value} {df : List Deferred} {s x : Nat} {t : TypeId} {X Y V : Value} {w w' : World} (ho : o.op = .call { callee := .builtin .append, args := #[.tmp s, .tmp x], argTypes := #[t, t] }) (hs : (⟨T, df⟩ : Act).eval (.tmp s) = X) (hx : (⟨T, df⟩ : Act).eval (.tmp x) = Y) (hr : (Builtin.append_ #[t, t] o.type #[X, Y]).run Tryz.prog w = .ok V w') : (execOp (⟨T, df⟩ : Act).eval o).run Tryz.prog w = .ok (.value V) w' := by
  unfold execOp
  simp only [ho, resolve, invoke, builtin, Sem.run_bind, Sem.run_pure, Result.andThen_ok, List.map_toArray, List.map_cons, List.map_nil, hs, hx, hr]
theorem esL_snoc (l : List Int) (s : Nat × Int) (t : Nat) : esL l s (t + 1) = esL l s t ++ [rE l (esS l s t)] := by
  unfold esL
  rw [List.range_succ, List.map_append]
  rfl
theorem dsL_snoc (l : List Int) (s : Nat × Int) (t : Nat) : dsL l s (t + 1) = dsL l s t ++ [rD l (dsS l s t)] := by
  unfold dsL
  rw [List.range_succ, List.map_append]
  rfl
end Go.Proofs.YtibedokegignhaaGreatDoor
namespace Go.Proofs.YtibedokegignhaaGreatDoor.Wi
open Go.RowKit
def OpPost (f : List Int) (w : World) (e : Ending) (w' : World) : Prop := ∃ v', e = .returned (.tuple #[v', .int .i64 (opErr f)]) ∧ Own w.heap.size w' v' (opBody f) ∧ Below w.heap.size w w'
theorem OpPost.bad {f : List Int} {w w' : World} {E : Int} (h : opErr f = E) (hE : E ≠ 0) (hb : Below w.heap.size w w') : OpPost f w (.returned (.tuple #[.slice none 0 0, .int .i64 E])) w' :=
  ⟨_, ret_tup h.symm, by rw [opBody_bad (by rw [h]; exact hE)]; exact Own.nil _ _, hb⟩
theorem ro_long (a : Option Addr) (n c : Nat) (f : List Int) (w : World) (hh : Hs w a n c f) (h : 32768 < n) :
    Calls Tryz.prog 53 #[.slice a n c] w fun e w' => OpPost f w e w' := by
  have H : Hid (opErr f = 11) := by
    have : outErr f = 11 := by unfold outErr; rw [hh.len, if_pos h]
    rw [opErr_out (by rw [this]; decide), this]; exact (rfl : (11 : Int) = 11)
  clear hh
  go_enter Tryz.func53, Tryz.ntmps53
  go_wp2
  go_ret2
  exact OpPost.bad H.out (by decide) (Below.refl _ _)
theorem ro_short (a : Option Addr) (n c : Nat) (f : List Int) (w : World) (hh : Hs w a n c f) (h : n < 12) :
    Calls Tryz.prog 53 #[.slice a n c] w fun e w' => OpPost f w e w' := by
  have H : Hid (opErr f = 10) := by
    have : outErr f = 10 := by unfold outErr; rw [hh.len, if_neg (by omega), if_pos h]
    rw [opErr_out (by rw [this]; decide), this]; exact (rfl : (10 : Int) = 10)
  clear hh
  go_enter Tryz.func53, Tryz.ntmps53
  go_wp2
  go_ret2
  exact OpPost.bad H.out (by decide) (Below.refl _ _)
theorem four_head (f : List Int) (h : 12 ≤ f.length) : ∃ a b c d r, f = a :: b :: c :: d :: r := by
  match f, h with
  | a :: b :: c :: d :: r, _ => exact ⟨a, b, c, d, r, rfl⟩
set_option maxHeartbeats 1000000 in
theorem ro_magic (b o n c : Nat) (f : List Int) (w : World) (hh : Hs w (some ⟨b, o, none⟩) n c f) (h1 : 12 ≤ n) (h2 : n ≤ 32768) (hm : f.take 4 ≠ M.magic) :
    Calls Tryz.prog 53 #[.slice (some ⟨b, o, none⟩) n c] w fun e w' => OpPost f w e w' := by
  have H : Hid (opErr f = 13) := by
    have : outErr f = 13 := by unfold outErr; rw [hh.len, if_neg (by omega), if_neg (by omega), if_neg hm]
    rw [opErr_out (by rw [this]; decide), this]; exact (rfl : (13 : Int) = 13)
  have hr := hh.row _ rfl
  have hln := hh.len
  obtain ⟨x0, x1, x2, x3, r, hf⟩ := four_head f (by omega)
  have q0 : w.cell? ⟨b, o, none⟩ = some (.int .u8 x0) := by have := hr 0 (by omega); rw [Addr.add_lit, hf] at this; exact this
  have q1 : w.cell? ⟨b, o + 1, none⟩ = some (.int .u8 x1) := by have := hr 1 (by omega); rw [Addr.add_lit, hf] at this; exact this
  have q2 : w.cell? ⟨b, o + 2, none⟩ = some (.int .u8 x2) := by have := hr 2 (by omega); rw [Addr.add_lit, hf] at this; exact this
  have q3 : w.cell? ⟨b, o + 3, none⟩ = some (.int .u8 x3) := by have := hr 3 (by omega); rw [Addr.add_lit, hf] at this; exact this
  have hne : ¬ (x0 = 97 ∧ x1 = 109 ∧ x2 = 110 ∧ x3 = 49) := by
    rintro ⟨rfl, rfl, rfl, rfl⟩
    apply hm
    rw [hf]
    rfl
  have hn1 : (12 : Int) ≤ (n : Int) := by omega
  clear hr hh hln hm hf
  by_cases e0 : x0 = 97
  · subst e0
    by_cases e1 : x1 = 109
    · subst e1
      by_cases e2 : x2 = 110
      · subst e2
        have t3 : (x3 != 49) = true := by rw [bne_iff_ne]; intro h; exact hne ⟨rfl, rfl, rfl, h⟩
        clear hne
        go_enter Tryz.func53, Tryz.ntmps53
        go_wp2
        go_ret2
        exact OpPost.bad H.out (by decide) (Below.refl _ _)
      · have t2 : (x2 != 110) = true := by rw [bne_iff_ne]; exact e2
        clear hne
        go_enter Tryz.func53, Tryz.ntmps53
        go_wp2
        go_ret2
        exact OpPost.bad H.out (by decide) (Below.refl _ _)
    · have t1 : (x1 != 109) = true := by rw [bne_iff_ne]; exact e1
      clear hne
      go_enter Tryz.func53, Tryz.ntmps53
      go_wp2
      go_ret2
      exact OpPost.bad H.out (by decide) (Below.refl _ _)
  · have t0 : (x0 != 97) = true := by rw [bne_iff_ne]; exact e0
    clear hne
    go_enter Tryz.func53, Tryz.ntmps53
    go_wp2
    go_ret2
    exact OpPost.bad H.out (by decide) (Below.refl _ _)
theorem opErr_co {f : List Int} (h1 : 12 ≤ f.length) (h2 : f.length ≤ 32768) (hm : f.take 4 = M.magic) : outErr f = coErr f.length (told f) := by
  unfold outErr
  rw [if_neg (by omega), if_neg (by omega), if_pos hm]
theorem be_le (S j : Nat) (h : j < 4) : (M.be S 4).getD (3 - j) 0 = M.leAt S j := by
  rw [be4]
  match j, h with
  | 0, _ | 1, _ | 2, _ | 3, _ => rfl
theorem le_getD (S j : Nat) (h : j < 4) : (M.le S 4).getD j 0 = M.leAt S j := by
  rw [le4]
  match j, h with
  | 0, _ | 1, _ | 2, _ | 3, _ => rfl
theorem tail_sum (f : List Int) (S : Nat) (hS : S < 4294967296) (hl : f.length = 4) (hb : ∀ z ∈ f, 0 ≤ z ∧ z < 256) : f = M.le S 4 ↔ S = M.rl f := by
  constructor
  · intro h; rw [h, rl_le S hS]
  · intro h; rw [h, le_rl f hl hb]
set_option maxHeartbeats 1000000 in
theorem ro_rest (b o n c : Nat) (f : List Int) (w : World) (hh : Hs w (some ⟨b, o, none⟩) n c f) (h1 : 12 ≤ n) (h2 : n ≤ 32768) (hm : f.take 4 = M.magic) :
    Calls Tryz.prog 53 #[.slice (some ⟨b, o, none⟩) n c] w fun e w' => OpPost f w e w' := by
  have hr := hh.row _ rfl
  have hln := hh.len
  have hcap := hh.cap
  have hby := hh.byte
  have hco := opErr_co (by omega) (by omega) hm
  rw [hln] at hco
  have cell : ∀ i, i < n → w.cell? ⟨b, o + i, none⟩ = some (.int .u8 (f.getD i 0)) := by
    intro i hi
    have := hr i (by omega)
    rwa [Addr.add_lit] at this
  have q0 : w.cell? ⟨b, o, none⟩ = some (.int .u8 97) := by
    have := cell 0 (by omega)
    rw [show f.getD 0 0 = (f.take 4).getD 0 0 from by simp [List.getD], hm] at this
    exact this
  have q1 : w.cell? ⟨b, o + 1, none⟩ = some (.int .u8 109) := by
    have := cell 1 (by omega)
    rw [show f.getD 1 0 = (f.take 4).getD 1 0 from by simp [List.getD], hm] at this
    exact this
  have q2 : w.cell? ⟨b, o + 2, none⟩ = some (.int .u8 110) := by
    have := cell 2 (by omega)
    rw [show f.getD 2 0 = (f.take 4).getD 2 0 from by simp [List.getD], hm] at this
    exact this
  have q3 : w.cell? ⟨b, o + 3, none⟩ = some (.int .u8 49) := by
    have := cell 3 (by omega)
    rw [show f.getD 3 0 = (f.take 4).getD 3 0 from by simp [List.getD], hm] at this
    exact this
  have HC := hide cell
  have hn1 : (12 : Int) ≤ (n : Int) := by omega
  have HLN := hide hln
  clear cell hr hln
  go_enter Tryz.func53, Tryz.ntmps53
  go_wp2
  clear q0 q1 q2 q3
  go_loop [4, 5] (fun v i => ∃ k : Nat, 4 ≤ k ∧ k ≤ 8 ∧ i = .int .i64 k ∧ v = .int .i64 (M.rb ((f.drop 4).take (k - 4)) : Nat)) (fun _ i => 8 - (intOf i).toNat)
  case atStart => exact ⟨4, by omega, by omega, rfl, rfl⟩
  case round =>
    obtain ⟨k, hk4, hk8, rfl, rfl⟩ := hrel
    by_cases hlt : k < 8
    · have hcell := HC.out k (by omega)
      have hdl : k - 4 < (f.drop 4).length := by rw [List.length_drop, HLN.out]; omega
      have hgd : (f.drop 4).getD (k - 4) 0 = f.getD k 0 := by simp [List.getD, show 4 + (k - 4) = k from by omega]
      have hz : 0 ≤ f.getD k 0 ∧ f.getD k 0 < 256 := hby _ (by simp [List.getD, show k < f.length by rw [HLN.out]; omega])
      have hz1 : 0 ≤ f[k]?.getD 0 := hz.1
      have hz2 : f[k]?.getD 0 < 256 := hz.2
      have hv : M.rb ((f.drop 4).take (k - 4)) < 256 ^ 3 := Nat.lt_of_lt_of_le (M.rb_lt _ (fun z hz => hby z (List.mem_of_mem_drop (List.mem_of_mem_take hz)))) (Nat.pow_le_pow_right (by omega) (by simp; omega))
      have HT := M.rb_take (f.drop 4) (k - 4) hdl
      rw [hgd, show k - 4 + 1 = k + 1 - 4 from by omega] at HT
      have HT2 := hide HT
      have hv2 : M.rb ((f.drop 4).take (k - 4)) < 16777216 := by omega
      clear hdl hgd HT hv hco
      generalize M.rb ((f.drop 4).take (k - 4)) = V at *
      go_wp2
      go_round
      case rel =>
        refine ⟨k + 1, by omega, by omega, by go_num, int_eq ?_⟩
        rw [HT2.out, show f[k]?.getD 0 = f.getD k 0 from rfl]
        omega
      case measure => simp [intOf]; omega
    · obtain rfl : k = 8 := by omega
      have HTD : Hid (M.rb ((f.drop 4).take (8 - 4)) = told f) := rfl
      have hTl : told f < 4294967296 := by
        have h3 : told f < 256 ^ 4 := Nat.lt_of_lt_of_le (M.rb_lt ((f.drop 4).take 4) (fun z hz => hby z (List.mem_of_mem_drop (List.mem_of_mem_take hz)))) (Nat.pow_le_pow_right (by omega) (by simp; omega))
        omega
      rw [HTD.out]
      by_cases hs : n < told f + 12
      · have H : Hid (opErr f = 10) := by
          have : outErr f = 10 := by rw [hco]; exact coErr_short hs
          rw [opErr_out (by rw [this]; decide), this]; exact (rfl : (10 : Int) = 10)
        clear hco
        go_wp2
        go_ret2
        exact OpPost.bad H.out (by decide) (Below.refl _ _)
      · by_cases ht : told f + 12 < n
        · have H : Hid (opErr f = 15) := by
            have : outErr f = 15 := by rw [hco]; exact coErr_tail ht
            rw [opErr_out (by rw [this]; decide), this]; exact (rfl : (15 : Int) = 15)
          clear hco
          go_wp2
          go_ret2
          exact OpPost.bad H.out (by decide) (Below.refl _ _)
        · have hout : outErr f = 0 := by rw [hco]; exact coErr_ok hs ht
          have hN1 : told f + 12 ≤ n := by omega
          have hN2 : n ≤ told f + 12 := by omega
          clear hco hs ht hTl HTD
          generalize told f = N at *
          have hcut := hh.cut (N + 8) (by omega)
          have hsl := M.sum_lt (f.take (N + 8)) (fun z hz => (hcut.byte z hz).2)
          have hl4 : (f.drop (N + 8)).length = 4 := by rw [List.length_drop, HLN.out]; omega
          have e8 : f.length - 4 = N + 8 := by rw [HLN.out]; omega
          have e12 : f.length - 12 = N := by rw [HLN.out]; omega
          have HTL := hide (tail_sum (f.drop (N + 8)) _ hsl hl4 (fun z hz => hby z (List.mem_of_mem_drop hz)))
          have HE1 := hide (fun h => opErr_ok (f := f) hout (by rw [e8]; exact h))
          have HE2 := hide (fun h => opErr_sum (f := f) hout (by rw [e8]; exact h))
          have HBO : Hid ((f.drop 8).take (f.length - 12) = (f.drop 8).take N) := by unfold Hid; rw [e12]
          have HL4 := hide hl4
          have rr := hide (hh.row _ rfl)
          clear hl4 hout hm hh e8 e12
          go_wp2_with fail
          refine (refsum_any ⟨b, o, none⟩ (N + 8) c (f.take (N + 8)) w hcut.len (by unfold maxLen; omega) (hcut.row _ rfl) hcut.byte).mono ?_
          rintro e w1 ⟨rfl, hx⟩
          rw [hx]
          clear hx hcut w1
          generalize M.sum (f.take (N + 8)) = S at *
          go_wp2_with fail
          refine (four_any S w hsl).mono ?_
          rintro e w2 ⟨rfl, o2, b2⟩
          have r2 := o2.row
          have HC2 : Hid (∀ (i : Nat), i < n → w2.cell? ⟨b, o + i, none⟩ = some (.int .u8 (f.getD i 0))) := fun i hi => cell_later b2 (HC.out i hi)
          have z2 := b2.size
          clear o2 HC
          go_wp2_with fail
          go_loopw [7] (fun i wr => ∃ j : Nat, j ≤ 4 ∧ i = .int .i64 j ∧ (∀ t, t < j → f.getD (N + 8 + t) 0 = M.leAt S t) ∧ ∃ d, wr = w2.drewN d) (fun i _ => 4 - (intOf i).toNat)
          case atStart => exact ⟨0, by omega, rfl, fun t ht => (by omega), 0, rfl⟩
          case round =>
            obtain ⟨j, hj, rfl, hall, d, rfl⟩ := hrel
            by_cases hj4 : j < 4
            · have hc1 := HC2.out (N + 8 + j) (by omega)
              have hc2 := r2 (3 - j) (by simp [M.be_length]; omega)
              rw [Addr.add_lit, Nat.zero_add, show (M.be S 4).getD (3 - j) 0 = M.leAt S j from be_le S j hj4] at hc2
              by_cases he : f.getD (N + 8 + j) 0 = M.leAt S j
              · have hbe : (f[N + 8 + j]?.getD 0 != M.leAt S j) = false := by rw [show f[N + 8 + j]?.getD 0 = f.getD (N + 8 + j) 0 from rfl, he]; simp
                have HALL := hide hall
                have HEE := hide he
                clear hall he hk4 hk8 hlt
                go_wp2_with fail
                go_quiet (fail)
                go_wp2
                refine ⟨⟨j + 1, by omega, by go_num, fun t ht => ?_, _, rfl⟩, by simp [intOf]; omega⟩
                by_cases htj : t < j
                · exact HALL.out t htj
                · obtain rfl : t = j := by omega
                  exact HEE.out
              · have hbe : (f[N + 8 + j]?.getD 0 != M.leAt S j) = true := by rw [bne_iff_ne]; exact he
                have H : Hid (opErr f = 14) := by
                  apply HE2.out
                  intro hS
                  apply he
                  have := HTL.out.2 hS
                  have h3 := congrArg (fun l : List Int => l.getD j 0) this
                  simp only [le_getD S j hj4] at h3
                  rw [← h3]
                  simp [List.getD]
                clear hall he hk4 hk8 hlt
                go_wp2_with fail
                go_quiet (fail)
                go_wp2
                go_ret2
                exact OpPost.bad H.out (by decide) (below_drewN (below_drewN b2 _) _)
            · obtain rfl : j = 4 := by omega
              have hdrop : f.drop (N + 8) = M.le S 4 := by
                obtain ⟨x0, x1, x2, x3, hx⟩ := four (f.drop (N + 8)) HL4.out
                have g0 : ∀ t, t < 4 → (f.drop (N + 8)).getD t 0 = M.leAt S t := by
                  intro t ht
                  rw [← hall t ht]
                  simp [List.getD]
                rw [hx] at g0 ⊢
                rw [le4]
                have y0 := g0 0 (by omega)
                have y1 := g0 1 (by omega)
                have y2 := g0 2 (by omega)
                have y3 := g0 3 (by omega)
                simp at y0 y1 y2 y3
                rw [y0, y1, y2, y3]
              have hE := HE1.out (HTL.out.1 hdrop)
              have HE := hide hE
              have HB := hide (opBody_ok hE)
              rw [HBO.out] at HB
              have hsrc : Hs (w2.drewN d) (some ⟨b, o + 8, none⟩) N (c - 8) ((f.drop 8).take N) := by
                refine ⟨by rw [List.length_take, List.length_drop, HLN.out]; omega, by omega, fun x hx => ?_, fun hx => by (cases hx), fun z hz => hby z (List.mem_of_mem_drop (List.mem_of_mem_take hz))⟩
                cases hx
                exact ((rr.out.later b2).drop 8).take N
              clear hall hk4 hk8 hlt hdrop hE r2 HC2 hj4
              go_wp2_with (at_builtin; go_must (refine app_hs _ rfl (.tmp 82) (.tmp 86) rfl w.heap.size [] _ rfl (some ⟨b, o + 8, none⟩) N (c - 8) ?xh ((f.drop 8).take N) hsrc (Own.nil _ _) z2 (by simp; omega) ?xk))
              case xh => rfl
              case xk =>
                intro v9 w9 o9 k9 g9
                have b9 : Below w.heap.size w w9 := (below_drewN b2 d).grown g9 z2 (fun k hk => by cases hk)
                go_wp2
                go_ret2
                exact ⟨_, ret_tup HE.out.symm, by rw [HB.out]; exact o9, b9⟩
theorem ro_any (a : Option Addr) (n c : Nat) (f : List Int) (w : World) (hh : Hs w a n c f) :
    Calls Tryz.prog 53 #[.slice a n c] w fun e w' => OpPost f w e w' := by
  by_cases h1 : 32768 < n
  · exact ro_long a n c f w hh h1
  · by_cases h2 : n < 12
    · exact ro_short a n c f w hh h2
    · cases a with
      | none =>
        have := (hh.nil rfl).1
        have h3 := hh.len
        rw [this] at h3
        simp at h3
        omega
      | some x =>
        obtain ⟨b, o, rfl⟩ := hh.flat (by omega)
        by_cases h3 : f.take 4 = M.magic
        · exact ro_rest b o n c f w hh (by omega) (by omega) h3
        · exact ro_magic b o n c f w hh (by omega) (by omega) h3
end Go.Proofs.YtibedokegignhaaGreatDoor.Wi
