import Derived.Laws.ResultCell
import Derived.Test.YtabiimmpjllcpaaDoorRows
import Derived.Lib.LaidTab
import Derived.MakeChecks
import Derived.Test.YtabiimmpjllcpaaDoorS4
namespace Go.Proofs.YtabiimmpjllcpaaDoor
open Go.RowKit Go.Maps
open Classical
set_option linter.unusedVariables false
set_option linter.unusedSimpArgs false
theorem MBox.splice {w : World} {q : Nat} {m : Mg} {s t : Value} (h : MBox w q m s t) (o : Nat) (vs : List Value) (m' : Mg) (s' t' : Value) (ho : o + vs.length ≤ 18) (hc : m'.cs s' t' = (m.cs s t).take o ++ vs ++ (m.cs s t).drop (o + vs.length)) : MBox (sets w q o vs) q m' s' t' ∧ UB q w (sets w q o vs) := by
  have h18 : (m.cs s t).length = 18 := rfl
  refine ⟨⟨by rw [size_sets]; exact h.lt, sets_kind _ _ _ h.kind, fun i x hx => ?_, fun i => sets_free _ _ _ (h.free i)⟩, upd_sets (S := fun b => b = q) (b := q) rfl _ _ _ (Upd.refl _ _)⟩
  rw [hc] at hx
  by_cases h1 : i < o
  · rw [List.append_assoc, List.getElem?_append_left (by rw [List.length_take, h18]; omega), List.getElem?_take, if_pos h1] at hx
    rw [← setCells_sets, World.cell?_setCells_out _ _ _ _ _ (fun _ _ => .inl h1)]
    exact h.cell i x hx
  · by_cases h2 : i < o + vs.length
    · rw [List.append_assoc, List.getElem?_append_right (by rw [List.length_take, h18]; omega), List.length_take, h18, Nat.min_eq_left (by omega), List.getElem?_append_left (by omega)] at hx
      have := sets_at (b := q) vs o w (fun k hk => ⟨_, h.cell (o + k) _ (List.getElem?_eq_getElem (show o + k < (m.cs s t).length by rw [h18]; omega))⟩) (i - o) x hx
      rw [show o + (i - o) = i by omega] at this
      exact this
    · rw [List.getElem?_append_right (by rw [List.length_append, List.length_take, h18]; omega), List.length_append, List.length_take, h18, Nat.min_eq_left (by omega), List.getElem?_drop, show o + vs.length + (i - (o + vs.length)) = i by omega] at hx
      rw [← setCells_sets, World.cell?_setCells_out _ _ _ _ _ (fun _ _ => .inr (by show o + vs.length ≤ i; omega))]
      exact h.cell i x hx
theorem MBox.stAt {w : World} {q : Nat} {m : Mg} {s t : Value} (h : MBox w q m s t) (ty : TypeId) (o : Nat) (vs : List Value) (ho : o + vs.length ≤ 18) (hi : (Tryd.prog.info? ty).map (·.size) = some vs.toArray.size) (h1 : vs.toArray.all (·.oneCell') = true) : (Instr.storeAt ty (.pointer (some ⟨q, o, none⟩)) (.agg vs.toArray)).run Tryd.prog w = .ok () (sets w q o vs) := by
  have := run_storeAt_mid (P := Tryd.prog) w q o ty vs.toArray (fun j hj => ⟨by rw [h.cell (o + j) _ (List.getElem?_eq_getElem (show o + j < (m.cs s t).length by have hj2 : j < vs.length := (by simpa using hj); show o + j < 18; omega))]; rfl, h.free (o + j)⟩) hi h1
  rw [setCells_sets] at this
  exact this
theorem stInt {w : World} {q o : Nat} {y : Value} (x : Int) (h : w.cell? ⟨q, o, none⟩ = some y) (hf : w.frozen? ⟨q, o, none⟩ = false) : (Instr.storeAt 3 (.pointer (some ⟨q, o, none⟩)) (.int .i64 x)).run Tryd.prog w = .ok () (sets w q o [.int .i64 x]) := by
  show _ = Result.ok () (w.setCell ⟨q, o, none⟩ (.int .i64 x))
  go_simp
theorem stSlE {w : World} {q o : Nat} {y : Value} (a : Option Addr) (n c : Nat) (h : w.cell? ⟨q, o, none⟩ = some y) (hf : w.frozen? ⟨q, o, none⟩ = false) : (Instr.storeAt 34 (.pointer (some ⟨q, o, none⟩)) (.slice a n c)).run Tryd.prog w = .ok () (sets w q o [.slice a n c]) := by
  show _ = Result.ok () (w.setCell ⟨q, o, none⟩ (.slice a n c))
  go_simp
theorem stSlD {w : World} {q o : Nat} {y : Value} (a : Option Addr) (n c : Nat) (h : w.cell? ⟨q, o, none⟩ = some y) (hf : w.frozen? ⟨q, o, none⟩ = false) : (Instr.storeAt 36 (.pointer (some ⟨q, o, none⟩)) (.slice a n c)).run Tryd.prog w = .ok () (sets w q o [.slice a n c]) := by
  show _ = Result.ok () (w.setCell ⟨q, o, none⟩ (.slice a n c))
  go_simp
def MS (w : World) (q : Nat) (m : Mg) (L : List En) (D : List (Int × Int)) : Prop := ∃ s t, MBox w q m s t ∧ OwnY yE (q + 1) w s L ∧ OwnY yD (q + 1) w t D
theorem OwnY.far {α : Type} {Y : Lay α} {B : Nat} {w w' : World} {v : Value} {l : List α} {S : Nat → Prop} (h : OwnY Y B w v l) (u : Upd S w w') (hS : ∀ k, B ≤ k → ¬ S k) : OwnY Y B w' v l :=
  h.upd1 u (fun g hg => hS g (World.ownsRow.lt h g hg).1)
theorem MS.ub {w w' : World} {q b : Nat} {m : Mg} {L : List En} {D : List (Int × Int)} (h : MS w q m L D) (u : UB b w w') (hb : b < q) : MS w' q m L D := by
  obtain ⟨s, t, h1, h2, h3⟩ := h
  exact ⟨s, t, h1.upd u (by omega), h2.far u (fun k hk => by omega), h3.far u (fun k hk => by omega)⟩
structure Rst where
  m : Mg
  L : List En
  D : List (Int × Int)
  s : Nat × Int
def rCol (l : List Int) (x : Rst) (j : Nat) (op : Bool) : Rst :=
  match j with
  | 0 => ⟨{ x.m with nd := (rI mxI l x.s : Int) }, x.L, x.D, sI mxI l x.s⟩
  | 1 => ⟨{ x.m with vw := (rI mxI l x.s : Int) }, x.L, x.D, sI mxI l x.s⟩
  | 2 => ⟨{ x.m with ls := (rI mxI l x.s : Int) }, x.L, x.D, sI mxI l x.s⟩
  | 3 => ⟨{ x.m with p := (rI mxI l x.s : Int) }, x.L, x.D, sI mxI l x.s⟩
  | 4 => ⟨{ x.m with cm := (rI mxI l x.s : Int) }, x.L, x.D, sI mxI l x.s⟩
  | 5 => ⟨{ x.m with d := rD l x.s }, x.L, x.D, sD l x.s⟩
  | 6 => if op then ⟨{ x.m with e := rE l x.s }, x.L, x.D, sE l x.s⟩ else ⟨{ x.m with e := ⟨(rI mxI l x.s : Int), (rI mxI l (sI mxI l x.s) : Int), ⟨0, 0, ⟨#[]⟩⟩⟩ }, x.L, x.D, s2 l x.s⟩
  | 7 => ⟨{ x.m with r := ((rO l x.s).k, (rO l x.s).s, (rO l x.s).v) }, x.L, x.D, sO l x.s⟩
  | 8 => ⟨x.m, esL l (sI 256 l x.s) (rI 256 l x.s), x.D, esS l (sI 256 l x.s) (rI 256 l x.s)⟩
  | 9 => ⟨x.m, x.L, dsL l (sI 7 l x.s) (rI 7 l x.s), dsS l (sI 7 l x.s) (rI 7 l x.s)⟩
  | _ => x
def U2 (b q : Nat) (w w' : World) : Prop := Upd (fun k => k = b ∨ k = q) w w'
theorem U2.refl (b q : Nat) (w : World) : U2 b q w w := Upd.refl _ _
theorem U2.trans {b q : Nat} {u v w : World} (h : U2 b q u v) (k : U2 b q v w) : U2 b q u w := Upd.trans h k
theorem U2.b {b q : Nat} {w w' : World} (h : UB b w w') : U2 b q w w' := Upd.mono h (fun k _ hk => .inl hk)
theorem U2.q {b q : Nat} {w w' : World} (h : UB q w w') : U2 b q w w' := Upd.mono h (fun k _ hk => .inr hk)
set_option maxRecDepth 100000 in
set_option maxHeartbeats 4000000 in
theorem rfield_0 (N b qm : Nat) (l : List Int) (x : Rst) (q : Int) (w : World) (hN : N ≤ qm) (hM : MS w qm x.m x.L x.D) (h : RD N w b l x.s) : Calls Tryd.prog 54 #[.agg #[.pointer (some ⟨b, 0, none⟩)], .pointer (some ⟨qm, 0, none⟩), .int .i64 0, .int .u8 q] w fun e w' => e = .returned (.tuple #[]) ∧ MS w' qm (rCol l x 0 (!decide (q = 15))).m (rCol l x 0 (!decide (q = 15))).L (rCol l x 0 (!decide (q = 15))).D ∧ RD N w' b l (rCol l x 0 (!decide (q = 15))).s ∧ U2 b qm w w' := by
  have hlt := h.lt
  obtain ⟨s_, t_, M0, OL0, OD0⟩ := hM
  have hqm := M0.lt
  have hqb : w.heap.size ≠ b := by omega
  go_enter Tryd.func54, Tryd.ntmps54
  go_upto_region 3 with fail
  obtain ⟨w1, hw1⟩ : ∃ w1, w1 = w.alloc (.cells #[.pointer (some ⟨b, 0, none⟩)] 102) := ⟨_, rfl⟩
  rw [← hw1]
  have hb01 : Below w.heap.size w w1 := by rw [hw1]; exact (Below.refl _ _).alloc (Nat.le_refl _) _
  have B1 : Bx w1 w.heap.size [.pointer (some ⟨b, 0, none⟩)] := by rw [hw1]; exact Bx.new w [.pointer (some ⟨b, 0, none⟩)] _
  have hR1 := h.later hb01
  have M1 := M0.bel hb01
  have OL1 := OL0.far (Upd.of_below (S := fun _ => False) hb01) (fun _ _ => id)
  have OD1 := OD0.far (Upd.of_below (S := fun _ => False) hb01) (fun _ _ => id)
  have hB1lt := B1.lt
  clear hw1
  refine wp_region_lit ?_
  refine vl_gen (fun T => T.size = 87 ∧ T[1]? = some (gw true (.pointer (some ⟨qm, 0, none⟩))) ∧ T[3]? = some (gw true (.int .u8 q)) ∧ T[4]? = some (gw true (.pointer (some ⟨w.heap.size, 0, none⟩)))) ⟨rfl, rfl, rfl, rfl⟩ (fun T0 ⟨hz, s1, s3, s4⟩ => ?_)
  refine vt _ (ex_move rfl (ev s1 rfl)) hz (fun A_1 zz kk s11x => ?_)
  replace s1 := kt kk s1
  replace s3 := kt kk s3
  replace s4 := kt kk s4
  clear kk hz
  have hz := zz
  have s11 := s11x
  clear zz s11x
  refine vt (.agg #[.pointer (some ⟨b, 0, none⟩)]) (ex_ld rfl (ev s4 rfl) (ldRd (B1.cell 0 _ rfl))) hz (fun A_2 zz kk s12x => ?_)
  replace s1 := kt kk s1
  replace s3 := kt kk s3
  replace s4 := kt kk s4
  replace s11 := kt kk s11
  clear kk hz
  have hz := zz
  have s12 := s12x
  clear zz s12x A_1
  refine vcallP (want_none rfl) (ex_call rfl (by simp only [List.map_toArray, List.map_cons, List.map_nil, (ev s12 rfl), evc] <;> rfl) rfl) (rnumber_any N b l x.s w1 hR1) rfl hz (by decide) ?_
  rintro e w2 ⟨rfl, hR2, hu2⟩
  refine ⟨_, rfl, fun A_3 zz kk s13x => ?_⟩
  have B2 := B1.ub hu2 hqb
  have M2 := M1.upd hu2 (by omega)
  have OL2 := OL1.far hu2 (fun k hk => by omega)
  have OD2 := OD1.far hu2 (fun k hk => by omega)
  replace s1 := kt kk s1
  replace s3 := kt kk s3
  replace s4 := kt kk s4
  replace s11 := kt kk s11
  clear kk hz s12
  have hz := zz
  have s13 := s13x
  clear zz s13x A_2
  refine vt (.pointer (some ⟨qm, 0, none⟩)) (ex_nil rfl (ev s11 rfl)) hz (fun A_4 zz kk s14x => ?_)
  replace s1 := kt kk s1
  replace s3 := kt kk s3
  replace s4 := kt kk s4
  replace s13 := kt kk s13
  clear kk hz s11
  have hz := zz
  have s14 := s14x
  clear zz s14x A_3
  refine vt (.pointer (some ⟨qm, 1, none⟩)) (ex_fa rfl (ev s14 rfl) (MBox.faNode _ _)) hz (fun A_5 zz kk s15x => ?_)
  replace s1 := kt kk s1
  replace s3 := kt kk s3
  replace s4 := kt kk s4
  replace s13 := kt kk s13
  clear kk hz s14
  have hz := zz
  have s15 := s15x
  clear zz s15x A_4
  refine vs (sets w2 qm 1 [.int .i64 (rI mxI l x.s : Int)]) (want_none rfl) (ex_st rfl (ev s15 rfl) (ev s13 rfl) (stInt _ (M2.cell 1 _ rfl) (M2.free 1))) rfl ?_
  have SP3 := M2.splice 1 [.int .i64 (rI mxI l x.s : Int)] { x.m with nd := (rI mxI l x.s : Int) } s_ t_ (by show _ + _ ≤ 18; simp) rfl
  obtain ⟨w3, hw3⟩ : ∃ y, y = sets w2 qm 1 [.int .i64 (rI mxI l x.s : Int)] := ⟨_, rfl⟩
  rw [← hw3] at SP3 ⊢
  clear hw3
  have M3 := SP3.1
  have hR3 := hR2.ub SP3.2 (fun k hk => by omega)
  have B3 := B2.ub SP3.2 (by omega)
  have OL3 := OL2.far SP3.2 (fun k hk => by omega)
  have OD3 := OD2.far SP3.2 (fun k hk => by omega)
  refine wpList_nil ?_
  go_wp2
  go_end0
  exact ⟨rfl, ⟨_, _, M3, OL3, OD3⟩, hR3, (U2.b (UB.of_below hb01)).trans ((U2.b hu2).trans (U2.q SP3.2))⟩
set_option maxRecDepth 100000 in
set_option maxHeartbeats 4000000 in
theorem rfield_1 (N b qm : Nat) (l : List Int) (x : Rst) (q : Int) (w : World) (hN : N ≤ qm) (hM : MS w qm x.m x.L x.D) (h : RD N w b l x.s) : Calls Tryd.prog 54 #[.agg #[.pointer (some ⟨b, 0, none⟩)], .pointer (some ⟨qm, 0, none⟩), .int .i64 1, .int .u8 q] w fun e w' => e = .returned (.tuple #[]) ∧ MS w' qm (rCol l x 1 (!decide (q = 15))).m (rCol l x 1 (!decide (q = 15))).L (rCol l x 1 (!decide (q = 15))).D ∧ RD N w' b l (rCol l x 1 (!decide (q = 15))).s ∧ U2 b qm w w' := by
  have hlt := h.lt
  obtain ⟨s_, t_, M0, OL0, OD0⟩ := hM
  have hqm := M0.lt
  have hqb : w.heap.size ≠ b := by omega
  go_enter Tryd.func54, Tryd.ntmps54
  go_upto_region 5 with fail
  obtain ⟨w1, hw1⟩ : ∃ w1, w1 = w.alloc (.cells #[.pointer (some ⟨b, 0, none⟩)] 102) := ⟨_, rfl⟩
  rw [← hw1]
  have hb01 : Below w.heap.size w w1 := by rw [hw1]; exact (Below.refl _ _).alloc (Nat.le_refl _) _
  have B1 : Bx w1 w.heap.size [.pointer (some ⟨b, 0, none⟩)] := by rw [hw1]; exact Bx.new w [.pointer (some ⟨b, 0, none⟩)] _
  have hR1 := h.later hb01
  have M1 := M0.bel hb01
  have OL1 := OL0.far (Upd.of_below (S := fun _ => False) hb01) (fun _ _ => id)
  have OD1 := OD0.far (Upd.of_below (S := fun _ => False) hb01) (fun _ _ => id)
  have hB1lt := B1.lt
  clear hw1
  refine wp_region_lit ?_
  refine vl_gen (fun T => T.size = 87 ∧ T[1]? = some (gw true (.pointer (some ⟨qm, 0, none⟩))) ∧ T[3]? = some (gw true (.int .u8 q)) ∧ T[4]? = some (gw true (.pointer (some ⟨w.heap.size, 0, none⟩)))) ⟨rfl, rfl, rfl, rfl⟩ (fun T0 ⟨hz, s1, s3, s4⟩ => ?_)
  refine vt _ (ex_move rfl (ev s1 rfl)) hz (fun A_1 zz kk s18x => ?_)
  replace s1 := kt kk s1
  replace s3 := kt kk s3
  replace s4 := kt kk s4
  clear kk hz
  have hz := zz
  have s18 := s18x
  clear zz s18x
  refine vt (.agg #[.pointer (some ⟨b, 0, none⟩)]) (ex_ld rfl (ev s4 rfl) (ldRd (B1.cell 0 _ rfl))) hz (fun A_2 zz kk s19x => ?_)
  replace s1 := kt kk s1
  replace s3 := kt kk s3
  replace s4 := kt kk s4
  replace s18 := kt kk s18
  clear kk hz
  have hz := zz
  have s19 := s19x
  clear zz s19x A_1
  refine vcallP (want_none rfl) (ex_call rfl (by simp only [List.map_toArray, List.map_cons, List.map_nil, (ev s19 rfl), evc] <;> rfl) rfl) (rnumber_any N b l x.s w1 hR1) rfl hz (by decide) ?_
  rintro e w2 ⟨rfl, hR2, hu2⟩
  refine ⟨_, rfl, fun A_3 zz kk s20x => ?_⟩
  have B2 := B1.ub hu2 hqb
  have M2 := M1.upd hu2 (by omega)
  have OL2 := OL1.far hu2 (fun k hk => by omega)
  have OD2 := OD1.far hu2 (fun k hk => by omega)
  replace s1 := kt kk s1
  replace s3 := kt kk s3
  replace s4 := kt kk s4
  replace s18 := kt kk s18
  clear kk hz s19
  have hz := zz
  have s20 := s20x
  clear zz s20x A_2
  refine vt (.pointer (some ⟨qm, 0, none⟩)) (ex_nil rfl (ev s18 rfl)) hz (fun A_4 zz kk s21x => ?_)
  replace s1 := kt kk s1
  replace s3 := kt kk s3
  replace s4 := kt kk s4
  replace s20 := kt kk s20
  clear kk hz s18
  have hz := zz
  have s21 := s21x
  clear zz s21x A_3
  refine vt (.pointer (some ⟨qm, 2, none⟩)) (ex_fa rfl (ev s21 rfl) (MBox.faView _ _)) hz (fun A_5 zz kk s22x => ?_)
  replace s1 := kt kk s1
  replace s3 := kt kk s3
  replace s4 := kt kk s4
  replace s20 := kt kk s20
  clear kk hz s21
  have hz := zz
  have s22 := s22x
  clear zz s22x A_4
  refine vs (sets w2 qm 2 [.int .i64 (rI mxI l x.s : Int)]) (want_none rfl) (ex_st rfl (ev s22 rfl) (ev s20 rfl) (stInt _ (M2.cell 2 _ rfl) (M2.free 2))) rfl ?_
  have SP3 := M2.splice 2 [.int .i64 (rI mxI l x.s : Int)] { x.m with vw := (rI mxI l x.s : Int) } s_ t_ (by show _ + _ ≤ 18; simp) rfl
  obtain ⟨w3, hw3⟩ : ∃ y, y = sets w2 qm 2 [.int .i64 (rI mxI l x.s : Int)] := ⟨_, rfl⟩
  rw [← hw3] at SP3 ⊢
  clear hw3
  have M3 := SP3.1
  have hR3 := hR2.ub SP3.2 (fun k hk => by omega)
  have B3 := B2.ub SP3.2 (by omega)
  have OL3 := OL2.far SP3.2 (fun k hk => by omega)
  have OD3 := OD2.far SP3.2 (fun k hk => by omega)
  refine wpList_nil ?_
  go_wp2
  go_end0
  exact ⟨rfl, ⟨_, _, M3, OL3, OD3⟩, hR3, (U2.b (UB.of_below hb01)).trans ((U2.b hu2).trans (U2.q SP3.2))⟩
set_option maxRecDepth 100000 in
set_option maxHeartbeats 4000000 in
theorem rfield_2 (N b qm : Nat) (l : List Int) (x : Rst) (q : Int) (w : World) (hN : N ≤ qm) (hM : MS w qm x.m x.L x.D) (h : RD N w b l x.s) : Calls Tryd.prog 54 #[.agg #[.pointer (some ⟨b, 0, none⟩)], .pointer (some ⟨qm, 0, none⟩), .int .i64 2, .int .u8 q] w fun e w' => e = .returned (.tuple #[]) ∧ MS w' qm (rCol l x 2 (!decide (q = 15))).m (rCol l x 2 (!decide (q = 15))).L (rCol l x 2 (!decide (q = 15))).D ∧ RD N w' b l (rCol l x 2 (!decide (q = 15))).s ∧ U2 b qm w w' := by
  have hlt := h.lt
  obtain ⟨s_, t_, M0, OL0, OD0⟩ := hM
  have hqm := M0.lt
  have hqb : w.heap.size ≠ b := by omega
  go_enter Tryd.func54, Tryd.ntmps54
  go_upto_region 7 with fail
  obtain ⟨w1, hw1⟩ : ∃ w1, w1 = w.alloc (.cells #[.pointer (some ⟨b, 0, none⟩)] 102) := ⟨_, rfl⟩
  rw [← hw1]
  have hb01 : Below w.heap.size w w1 := by rw [hw1]; exact (Below.refl _ _).alloc (Nat.le_refl _) _
  have B1 : Bx w1 w.heap.size [.pointer (some ⟨b, 0, none⟩)] := by rw [hw1]; exact Bx.new w [.pointer (some ⟨b, 0, none⟩)] _
  have hR1 := h.later hb01
  have M1 := M0.bel hb01
  have OL1 := OL0.far (Upd.of_below (S := fun _ => False) hb01) (fun _ _ => id)
  have OD1 := OD0.far (Upd.of_below (S := fun _ => False) hb01) (fun _ _ => id)
  have hB1lt := B1.lt
  clear hw1
  refine wp_region_lit ?_
  refine vl_gen (fun T => T.size = 87 ∧ T[1]? = some (gw true (.pointer (some ⟨qm, 0, none⟩))) ∧ T[3]? = some (gw true (.int .u8 q)) ∧ T[4]? = some (gw true (.pointer (some ⟨w.heap.size, 0, none⟩)))) ⟨rfl, rfl, rfl, rfl⟩ (fun T0 ⟨hz, s1, s3, s4⟩ => ?_)
  refine vt _ (ex_move rfl (ev s1 rfl)) hz (fun A_1 zz kk s25x => ?_)
  replace s1 := kt kk s1
  replace s3 := kt kk s3
  replace s4 := kt kk s4
  clear kk hz
  have hz := zz
  have s25 := s25x
  clear zz s25x
  refine vt (.agg #[.pointer (some ⟨b, 0, none⟩)]) (ex_ld rfl (ev s4 rfl) (ldRd (B1.cell 0 _ rfl))) hz (fun A_2 zz kk s26x => ?_)
  replace s1 := kt kk s1
  replace s3 := kt kk s3
  replace s4 := kt kk s4
  replace s25 := kt kk s25
  clear kk hz
  have hz := zz
  have s26 := s26x
  clear zz s26x A_1
  refine vcallP (want_none rfl) (ex_call rfl (by simp only [List.map_toArray, List.map_cons, List.map_nil, (ev s26 rfl), evc] <;> rfl) rfl) (rnumber_any N b l x.s w1 hR1) rfl hz (by decide) ?_
  rintro e w2 ⟨rfl, hR2, hu2⟩
  refine ⟨_, rfl, fun A_3 zz kk s27x => ?_⟩
  have B2 := B1.ub hu2 hqb
  have M2 := M1.upd hu2 (by omega)
  have OL2 := OL1.far hu2 (fun k hk => by omega)
  have OD2 := OD1.far hu2 (fun k hk => by omega)
  replace s1 := kt kk s1
  replace s3 := kt kk s3
  replace s4 := kt kk s4
  replace s25 := kt kk s25
  clear kk hz s26
  have hz := zz
  have s27 := s27x
  clear zz s27x A_2
  refine vt (.pointer (some ⟨qm, 0, none⟩)) (ex_nil rfl (ev s25 rfl)) hz (fun A_4 zz kk s28x => ?_)
  replace s1 := kt kk s1
  replace s3 := kt kk s3
  replace s4 := kt kk s4
  replace s27 := kt kk s27
  clear kk hz s25
  have hz := zz
  have s28 := s28x
  clear zz s28x A_3
  refine vt (.pointer (some ⟨qm, 13, none⟩)) (ex_fa rfl (ev s28 rfl) (MBox.faLast _ _)) hz (fun A_5 zz kk s29x => ?_)
  replace s1 := kt kk s1
  replace s3 := kt kk s3
  replace s4 := kt kk s4
  replace s27 := kt kk s27
  clear kk hz s28
  have hz := zz
  have s29 := s29x
  clear zz s29x A_4
  refine vs (sets w2 qm 13 [.int .i64 (rI mxI l x.s : Int)]) (want_none rfl) (ex_st rfl (ev s29 rfl) (ev s27 rfl) (stInt _ (M2.cell 13 _ rfl) (M2.free 13))) rfl ?_
  have SP3 := M2.splice 13 [.int .i64 (rI mxI l x.s : Int)] { x.m with ls := (rI mxI l x.s : Int) } s_ t_ (by show _ + _ ≤ 18; simp) rfl
  obtain ⟨w3, hw3⟩ : ∃ y, y = sets w2 qm 13 [.int .i64 (rI mxI l x.s : Int)] := ⟨_, rfl⟩
  rw [← hw3] at SP3 ⊢
  clear hw3
  have M3 := SP3.1
  have hR3 := hR2.ub SP3.2 (fun k hk => by omega)
  have B3 := B2.ub SP3.2 (by omega)
  have OL3 := OL2.far SP3.2 (fun k hk => by omega)
  have OD3 := OD2.far SP3.2 (fun k hk => by omega)
  refine wpList_nil ?_
  go_wp2
  go_end0
  exact ⟨rfl, ⟨_, _, M3, OL3, OD3⟩, hR3, (U2.b (UB.of_below hb01)).trans ((U2.b hu2).trans (U2.q SP3.2))⟩
set_option maxRecDepth 100000 in
set_option maxHeartbeats 4000000 in
theorem rfield_3 (N b qm : Nat) (l : List Int) (x : Rst) (q : Int) (w : World) (hN : N ≤ qm) (hM : MS w qm x.m x.L x.D) (h : RD N w b l x.s) : Calls Tryd.prog 54 #[.agg #[.pointer (some ⟨b, 0, none⟩)], .pointer (some ⟨qm, 0, none⟩), .int .i64 3, .int .u8 q] w fun e w' => e = .returned (.tuple #[]) ∧ MS w' qm (rCol l x 3 (!decide (q = 15))).m (rCol l x 3 (!decide (q = 15))).L (rCol l x 3 (!decide (q = 15))).D ∧ RD N w' b l (rCol l x 3 (!decide (q = 15))).s ∧ U2 b qm w w' := by
  have hlt := h.lt
  obtain ⟨s_, t_, M0, OL0, OD0⟩ := hM
  have hqm := M0.lt
  have hqb : w.heap.size ≠ b := by omega
  go_enter Tryd.func54, Tryd.ntmps54
  go_upto_region 9 with fail
  obtain ⟨w1, hw1⟩ : ∃ w1, w1 = w.alloc (.cells #[.pointer (some ⟨b, 0, none⟩)] 102) := ⟨_, rfl⟩
  rw [← hw1]
  have hb01 : Below w.heap.size w w1 := by rw [hw1]; exact (Below.refl _ _).alloc (Nat.le_refl _) _
  have B1 : Bx w1 w.heap.size [.pointer (some ⟨b, 0, none⟩)] := by rw [hw1]; exact Bx.new w [.pointer (some ⟨b, 0, none⟩)] _
  have hR1 := h.later hb01
  have M1 := M0.bel hb01
  have OL1 := OL0.far (Upd.of_below (S := fun _ => False) hb01) (fun _ _ => id)
  have OD1 := OD0.far (Upd.of_below (S := fun _ => False) hb01) (fun _ _ => id)
  have hB1lt := B1.lt
  clear hw1
  refine wp_region_lit ?_
  refine vl_gen (fun T => T.size = 87 ∧ T[1]? = some (gw true (.pointer (some ⟨qm, 0, none⟩))) ∧ T[3]? = some (gw true (.int .u8 q)) ∧ T[4]? = some (gw true (.pointer (some ⟨w.heap.size, 0, none⟩)))) ⟨rfl, rfl, rfl, rfl⟩ (fun T0 ⟨hz, s1, s3, s4⟩ => ?_)
  refine vt _ (ex_move rfl (ev s1 rfl)) hz (fun A_1 zz kk s32x => ?_)
  replace s1 := kt kk s1
  replace s3 := kt kk s3
  replace s4 := kt kk s4
  clear kk hz
  have hz := zz
  have s32 := s32x
  clear zz s32x
  refine vt (.agg #[.pointer (some ⟨b, 0, none⟩)]) (ex_ld rfl (ev s4 rfl) (ldRd (B1.cell 0 _ rfl))) hz (fun A_2 zz kk s33x => ?_)
  replace s1 := kt kk s1
  replace s3 := kt kk s3
  replace s4 := kt kk s4
  replace s32 := kt kk s32
  clear kk hz
  have hz := zz
  have s33 := s33x
  clear zz s33x A_1
  refine vcallP (want_none rfl) (ex_call rfl (by simp only [List.map_toArray, List.map_cons, List.map_nil, (ev s33 rfl), evc] <;> rfl) rfl) (rnumber_any N b l x.s w1 hR1) rfl hz (by decide) ?_
  rintro e w2 ⟨rfl, hR2, hu2⟩
  refine ⟨_, rfl, fun A_3 zz kk s34x => ?_⟩
  have B2 := B1.ub hu2 hqb
  have M2 := M1.upd hu2 (by omega)
  have OL2 := OL1.far hu2 (fun k hk => by omega)
  have OD2 := OD1.far hu2 (fun k hk => by omega)
  replace s1 := kt kk s1
  replace s3 := kt kk s3
  replace s4 := kt kk s4
  replace s32 := kt kk s32
  clear kk hz s33
  have hz := zz
  have s34 := s34x
  clear zz s34x A_2
  refine vt (.pointer (some ⟨qm, 0, none⟩)) (ex_nil rfl (ev s32 rfl)) hz (fun A_4 zz kk s35x => ?_)
  replace s1 := kt kk s1
  replace s3 := kt kk s3
  replace s4 := kt kk s4
  replace s34 := kt kk s34
  clear kk hz s32
  have hz := zz
  have s35 := s35x
  clear zz s35x A_3
  refine vt (.pointer (some ⟨qm, 11, none⟩)) (ex_fa rfl (ev s35 rfl) (MBox.faPlace _ _)) hz (fun A_5 zz kk s36x => ?_)
  replace s1 := kt kk s1
  replace s3 := kt kk s3
  replace s4 := kt kk s4
  replace s34 := kt kk s34
  clear kk hz s35
  have hz := zz
  have s36 := s36x
  clear zz s36x A_4
  refine vs (sets w2 qm 11 [.int .i64 (rI mxI l x.s : Int)]) (want_none rfl) (ex_st rfl (ev s36 rfl) (ev s34 rfl) (stInt _ (M2.cell 11 _ rfl) (M2.free 11))) rfl ?_
  have SP3 := M2.splice 11 [.int .i64 (rI mxI l x.s : Int)] { x.m with p := (rI mxI l x.s : Int) } s_ t_ (by show _ + _ ≤ 18; simp) rfl
  obtain ⟨w3, hw3⟩ : ∃ y, y = sets w2 qm 11 [.int .i64 (rI mxI l x.s : Int)] := ⟨_, rfl⟩
  rw [← hw3] at SP3 ⊢
  clear hw3
  have M3 := SP3.1
  have hR3 := hR2.ub SP3.2 (fun k hk => by omega)
  have B3 := B2.ub SP3.2 (by omega)
  have OL3 := OL2.far SP3.2 (fun k hk => by omega)
  have OD3 := OD2.far SP3.2 (fun k hk => by omega)
  refine wpList_nil ?_
  go_wp2
  go_end0
  exact ⟨rfl, ⟨_, _, M3, OL3, OD3⟩, hR3, (U2.b (UB.of_below hb01)).trans ((U2.b hu2).trans (U2.q SP3.2))⟩
set_option maxRecDepth 100000 in
set_option maxHeartbeats 4000000 in
theorem rfield_4 (N b qm : Nat) (l : List Int) (x : Rst) (q : Int) (w : World) (hN : N ≤ qm) (hM : MS w qm x.m x.L x.D) (h : RD N w b l x.s) : Calls Tryd.prog 54 #[.agg #[.pointer (some ⟨b, 0, none⟩)], .pointer (some ⟨qm, 0, none⟩), .int .i64 4, .int .u8 q] w fun e w' => e = .returned (.tuple #[]) ∧ MS w' qm (rCol l x 4 (!decide (q = 15))).m (rCol l x 4 (!decide (q = 15))).L (rCol l x 4 (!decide (q = 15))).D ∧ RD N w' b l (rCol l x 4 (!decide (q = 15))).s ∧ U2 b qm w w' := by
  have hlt := h.lt
  obtain ⟨s_, t_, M0, OL0, OD0⟩ := hM
  have hqm := M0.lt
  have hqb : w.heap.size ≠ b := by omega
  go_enter Tryd.func54, Tryd.ntmps54
  go_upto_region 11 with fail
  obtain ⟨w1, hw1⟩ : ∃ w1, w1 = w.alloc (.cells #[.pointer (some ⟨b, 0, none⟩)] 102) := ⟨_, rfl⟩
  rw [← hw1]
  have hb01 : Below w.heap.size w w1 := by rw [hw1]; exact (Below.refl _ _).alloc (Nat.le_refl _) _
  have B1 : Bx w1 w.heap.size [.pointer (some ⟨b, 0, none⟩)] := by rw [hw1]; exact Bx.new w [.pointer (some ⟨b, 0, none⟩)] _
  have hR1 := h.later hb01
  have M1 := M0.bel hb01
  have OL1 := OL0.far (Upd.of_below (S := fun _ => False) hb01) (fun _ _ => id)
  have OD1 := OD0.far (Upd.of_below (S := fun _ => False) hb01) (fun _ _ => id)
  have hB1lt := B1.lt
  clear hw1
  refine wp_region_lit ?_
  refine vl_gen (fun T => T.size = 87 ∧ T[1]? = some (gw true (.pointer (some ⟨qm, 0, none⟩))) ∧ T[3]? = some (gw true (.int .u8 q)) ∧ T[4]? = some (gw true (.pointer (some ⟨w.heap.size, 0, none⟩)))) ⟨rfl, rfl, rfl, rfl⟩ (fun T0 ⟨hz, s1, s3, s4⟩ => ?_)
  refine vt _ (ex_move rfl (ev s1 rfl)) hz (fun A_1 zz kk s39x => ?_)
  replace s1 := kt kk s1
  replace s3 := kt kk s3
  replace s4 := kt kk s4
  clear kk hz
  have hz := zz
  have s39 := s39x
  clear zz s39x
  refine vt (.agg #[.pointer (some ⟨b, 0, none⟩)]) (ex_ld rfl (ev s4 rfl) (ldRd (B1.cell 0 _ rfl))) hz (fun A_2 zz kk s40x => ?_)
  replace s1 := kt kk s1
  replace s3 := kt kk s3
  replace s4 := kt kk s4
  replace s39 := kt kk s39
  clear kk hz
  have hz := zz
  have s40 := s40x
  clear zz s40x A_1
  refine vcallP (want_none rfl) (ex_call rfl (by simp only [List.map_toArray, List.map_cons, List.map_nil, (ev s40 rfl), evc] <;> rfl) rfl) (rnumber_any N b l x.s w1 hR1) rfl hz (by decide) ?_
  rintro e w2 ⟨rfl, hR2, hu2⟩
  refine ⟨_, rfl, fun A_3 zz kk s41x => ?_⟩
  have B2 := B1.ub hu2 hqb
  have M2 := M1.upd hu2 (by omega)
  have OL2 := OL1.far hu2 (fun k hk => by omega)
  have OD2 := OD1.far hu2 (fun k hk => by omega)
  replace s1 := kt kk s1
  replace s3 := kt kk s3
  replace s4 := kt kk s4
  replace s39 := kt kk s39
  clear kk hz s40
  have hz := zz
  have s41 := s41x
  clear zz s41x A_2
  refine vt (.pointer (some ⟨qm, 0, none⟩)) (ex_nil rfl (ev s39 rfl)) hz (fun A_4 zz kk s42x => ?_)
  replace s1 := kt kk s1
  replace s3 := kt kk s3
  replace s4 := kt kk s4
  replace s41 := kt kk s41
  clear kk hz s39
  have hz := zz
  have s42 := s42x
  clear zz s42x A_3
  refine vt (.pointer (some ⟨qm, 12, none⟩)) (ex_fa rfl (ev s42 rfl) (MBox.faCommit _ _)) hz (fun A_5 zz kk s43x => ?_)
  replace s1 := kt kk s1
  replace s3 := kt kk s3
  replace s4 := kt kk s4
  replace s41 := kt kk s41
  clear kk hz s42
  have hz := zz
  have s43 := s43x
  clear zz s43x A_4
  refine vs (sets w2 qm 12 [.int .i64 (rI mxI l x.s : Int)]) (want_none rfl) (ex_st rfl (ev s43 rfl) (ev s41 rfl) (stInt _ (M2.cell 12 _ rfl) (M2.free 12))) rfl ?_
  have SP3 := M2.splice 12 [.int .i64 (rI mxI l x.s : Int)] { x.m with cm := (rI mxI l x.s : Int) } s_ t_ (by show _ + _ ≤ 18; simp) rfl
  obtain ⟨w3, hw3⟩ : ∃ y, y = sets w2 qm 12 [.int .i64 (rI mxI l x.s : Int)] := ⟨_, rfl⟩
  rw [← hw3] at SP3 ⊢
  clear hw3
  have M3 := SP3.1
  have hR3 := hR2.ub SP3.2 (fun k hk => by omega)
  have B3 := B2.ub SP3.2 (by omega)
  have OL3 := OL2.far SP3.2 (fun k hk => by omega)
  have OD3 := OD2.far SP3.2 (fun k hk => by omega)
  refine wpList_nil ?_
  go_wp2
  go_end0
  exact ⟨rfl, ⟨_, _, M3, OL3, OD3⟩, hR3, (U2.b (UB.of_below hb01)).trans ((U2.b hu2).trans (U2.q SP3.2))⟩
set_option maxRecDepth 100000 in
set_option maxHeartbeats 4000000 in
theorem rfield_5 (N b qm : Nat) (l : List Int) (x : Rst) (q : Int) (w : World) (hN : N ≤ qm) (hM : MS w qm x.m x.L x.D) (h : RD N w b l x.s) : Calls Tryd.prog 54 #[.agg #[.pointer (some ⟨b, 0, none⟩)], .pointer (some ⟨qm, 0, none⟩), .int .i64 5, .int .u8 q] w fun e w' => e = .returned (.tuple #[]) ∧ MS w' qm (rCol l x 5 (!decide (q = 15))).m (rCol l x 5 (!decide (q = 15))).L (rCol l x 5 (!decide (q = 15))).D ∧ RD N w' b l (rCol l x 5 (!decide (q = 15))).s ∧ U2 b qm w w' := by
  have hlt := h.lt
  obtain ⟨s_, t_, M0, OL0, OD0⟩ := hM
  have hqm := M0.lt
  have hqb : w.heap.size ≠ b := by omega
  go_enter Tryd.func54, Tryd.ntmps54
  go_upto_region 13 with fail
  obtain ⟨w1, hw1⟩ : ∃ w1, w1 = w.alloc (.cells #[.pointer (some ⟨b, 0, none⟩)] 102) := ⟨_, rfl⟩
  rw [← hw1]
  have hb01 : Below w.heap.size w w1 := by rw [hw1]; exact (Below.refl _ _).alloc (Nat.le_refl _) _
  have B1 : Bx w1 w.heap.size [.pointer (some ⟨b, 0, none⟩)] := by rw [hw1]; exact Bx.new w [.pointer (some ⟨b, 0, none⟩)] _
  have hR1 := h.later hb01
  have M1 := M0.bel hb01
  have OL1 := OL0.far (Upd.of_below (S := fun _ => False) hb01) (fun _ _ => id)
  have OD1 := OD0.far (Upd.of_below (S := fun _ => False) hb01) (fun _ _ => id)
  have hB1lt := B1.lt
  clear hw1
  refine wp_region_lit ?_
  refine vl_gen (fun T => T.size = 87 ∧ T[1]? = some (gw true (.pointer (some ⟨qm, 0, none⟩))) ∧ T[3]? = some (gw true (.int .u8 q)) ∧ T[4]? = some (gw true (.pointer (some ⟨w.heap.size, 0, none⟩)))) ⟨rfl, rfl, rfl, rfl⟩ (fun T0 ⟨hz, s1, s3, s4⟩ => ?_)
  refine vt _ (ex_move rfl (ev s1 rfl)) hz (fun A_1 zz kk s46x => ?_)
  replace s1 := kt kk s1
  replace s3 := kt kk s3
  replace s4 := kt kk s4
  clear kk hz
  have hz := zz
  have s46 := s46x
  clear zz s46x
  refine vt (.agg #[.pointer (some ⟨b, 0, none⟩)]) (ex_ld rfl (ev s4 rfl) (ldRd (B1.cell 0 _ rfl))) hz (fun A_2 zz kk s47x => ?_)
  replace s1 := kt kk s1
  replace s3 := kt kk s3
  replace s4 := kt kk s4
  replace s46 := kt kk s46
  clear kk hz
  have hz := zz
  have s47 := s47x
  clear zz s47x A_1
  refine vcallP (want_none rfl) (ex_call rfl (by simp only [List.map_toArray, List.map_cons, List.map_nil, (ev s47 rfl), evc] <;> rfl) rfl) (rdraw_any N b l x.s w1 hR1) rfl hz (by decide) ?_
  rintro e w2 ⟨rfl, hR2, hu2⟩
  refine ⟨_, rfl, fun A_3 zz kk s48x => ?_⟩
  have B2 := B1.ub hu2 hqb
  have M2 := M1.upd hu2 (by omega)
  have OL2 := OL1.far hu2 (fun k hk => by omega)
  have OD2 := OD1.far hu2 (fun k hk => by omega)
  replace s1 := kt kk s1
  replace s3 := kt kk s3
  replace s4 := kt kk s4
  replace s46 := kt kk s46
  clear kk hz s47
  have hz := zz
  have s48 := s48x
  clear zz s48x A_2
  refine vt (.pointer (some ⟨qm, 0, none⟩)) (ex_nil rfl (ev s46 rfl)) hz (fun A_4 zz kk s49x => ?_)
  replace s1 := kt kk s1
  replace s3 := kt kk s3
  replace s4 := kt kk s4
  replace s48 := kt kk s48
  clear kk hz s46
  have hz := zz
  have s49 := s49x
  clear zz s49x A_3
  refine vt (.pointer (some ⟨qm, 14, none⟩)) (ex_fa rfl (ev s49 rfl) (MBox.faDraw _ _)) hz (fun A_5 zz kk s50x => ?_)
  replace s1 := kt kk s1
  replace s3 := kt kk s3
  replace s4 := kt kk s4
  replace s48 := kt kk s48
  clear kk hz s49
  have hz := zz
  have s50 := s50x
  clear zz s50x A_4
  refine vs (sets w2 qm 14 [.int .u64 (rD l x.s).1, .int .u64 (rD l x.s).2]) (want_none rfl) (ex_st rfl (ev s50 rfl) (ev s48 rfl) (M2.stAt 33 14 [.int .u64 (rD l x.s).1, .int .u64 (rD l x.s).2] (by show 14 + 2 ≤ 18; omega) (by kernel_rfl) (by kernel_rfl))) rfl ?_
  have SP3 := M2.splice 14 [.int .u64 (rD l x.s).1, .int .u64 (rD l x.s).2] { x.m with d := rD l x.s } s_ t_ (by show _ + _ ≤ 18; simp) rfl
  obtain ⟨w3, hw3⟩ : ∃ y, y = sets w2 qm 14 [.int .u64 (rD l x.s).1, .int .u64 (rD l x.s).2] := ⟨_, rfl⟩
  rw [← hw3] at SP3 ⊢
  clear hw3
  have M3 := SP3.1
  have hR3 := hR2.ub SP3.2 (fun k hk => by omega)
  have B3 := B2.ub SP3.2 (by omega)
  have OL3 := OL2.far SP3.2 (fun k hk => by omega)
  have OD3 := OD2.far SP3.2 (fun k hk => by omega)
  refine wpList_nil ?_
  go_wp2
  go_end0
  exact ⟨rfl, ⟨_, _, M3, OL3, OD3⟩, hR3, (U2.b (UB.of_below hb01)).trans ((U2.b hu2).trans (U2.q SP3.2))⟩
set_option maxRecDepth 100000 in
set_option maxHeartbeats 4000000 in
theorem rfield_6 (N b qm : Nat) (l : List Int) (x : Rst) (q : Int) (w : World) (hN : N ≤ qm) (hM : MS w qm x.m x.L x.D) (h : RD N w b l x.s) : Calls Tryd.prog 54 #[.agg #[.pointer (some ⟨b, 0, none⟩)], .pointer (some ⟨qm, 0, none⟩), .int .i64 6, .int .u8 q] w fun e w' => e = .returned (.tuple #[]) ∧ MS w' qm (rCol l x 6 (!decide (q = 15))).m (rCol l x 6 (!decide (q = 15))).L (rCol l x 6 (!decide (q = 15))).D ∧ RD N w' b l (rCol l x 6 (!decide (q = 15))).s ∧ U2 b qm w w' := by
  have hlt := h.lt
  obtain ⟨s_, t_, M0, OL0, OD0⟩ := hM
  have hqm := M0.lt
  have hqb : w.heap.size ≠ b := by omega
  go_enter Tryd.func54, Tryd.ntmps54
  go_upto_region 15 with fail
  obtain ⟨w1, hw1⟩ : ∃ w1, w1 = w.alloc (.cells #[.pointer (some ⟨b, 0, none⟩)] 102) := ⟨_, rfl⟩
  rw [← hw1]
  have hb01 : Below w.heap.size w w1 := by rw [hw1]; exact (Below.refl _ _).alloc (Nat.le_refl _) _
  have B1 : Bx w1 w.heap.size [.pointer (some ⟨b, 0, none⟩)] := by rw [hw1]; exact Bx.new w [.pointer (some ⟨b, 0, none⟩)] _
  have hR1 := h.later hb01
  have M1 := M0.bel hb01
  have OL1 := OL0.far (Upd.of_below (S := fun _ => False) hb01) (fun _ _ => id)
  have OD1 := OD0.far (Upd.of_below (S := fun _ => False) hb01) (fun _ _ => id)
  have hB1lt := B1.lt
  clear hw1
  refine wp_region_lit ?_
  refine vl_gen (fun T => T.size = 87 ∧ T[1]? = some (gw true (.pointer (some ⟨qm, 0, none⟩))) ∧ T[3]? = some (gw true (.int .u8 q)) ∧ T[4]? = some (gw true (.pointer (some ⟨w.heap.size, 0, none⟩)))) ⟨rfl, rfl, rfl, rfl⟩ (fun T0 ⟨hz, s1, s3, s4⟩ => ?_)
  refine vt _ (ex_move rfl (ev s1 rfl)) hz (fun A_1 zz kk s53x => ?_)
  replace s1 := kt kk s1
  replace s3 := kt kk s3
  replace s4 := kt kk s4
  clear kk hz
  have hz := zz
  have s53 := s53x
  clear zz s53x
  refine vt (.agg #[.pointer (some ⟨b, 0, none⟩)]) (ex_ld rfl (ev s4 rfl) (ldRd (B1.cell 0 _ rfl))) hz (fun A_2 zz kk s54x => ?_)
  replace s1 := kt kk s1
  replace s3 := kt kk s3
  replace s4 := kt kk s4
  replace s53 := kt kk s53
  clear kk hz
  have hz := zz
  have s54 := s54x
  clear zz s54x A_1
  refine vcallP (want_none rfl) (ex_call rfl (by simp only [List.map_toArray, List.map_cons, List.map_nil, (ev s54 rfl), evc] <;> rfl) rfl) (rname_any N b l x.s w1 hR1) rfl hz (by decide) ?_
  rintro e w2 ⟨rfl, hR2, hu2⟩
  refine ⟨_, rfl, fun A_3 zz kk s55x => ?_⟩
  have B2 := B1.ub hu2 hqb
  have M2 := M1.upd hu2 (by omega)
  have OL2 := OL1.far hu2 (fun k hk => by omega)
  have OD2 := OD1.far hu2 (fun k hk => by omega)
  replace s1 := kt kk s1
  replace s3 := kt kk s3
  replace s4 := kt kk s4
  replace s53 := kt kk s53
  clear kk hz s54
  have hz := zz
  have s55 := s55x
  clear zz s55x A_2
  refine vt (.pointer (some ⟨qm, 0, none⟩)) (ex_nil rfl (ev s53 rfl)) hz (fun A_4 zz kk s56x => ?_)
  replace s1 := kt kk s1
  replace s3 := kt kk s3
  replace s4 := kt kk s4
  replace s55 := kt kk s55
  clear kk hz s53
  have hz := zz
  have s56 := s56x
  clear zz s56x A_3
  refine vt (.pointer (some ⟨qm, 3, none⟩)) (ex_fa rfl (ev s56 rfl) (MBox.faEntry _ _)) hz (fun A_5 zz kk s57x => ?_)
  replace s1 := kt kk s1
  replace s3 := kt kk s3
  replace s4 := kt kk s4
  replace s55 := kt kk s55
  clear kk hz s56
  have hz := zz
  have s57 := s57x
  clear zz s57x A_4
  refine vs (sets w2 qm 3 [.int .i64 (rI mxI l x.s : Int), .int .i64 (rI mxI l (sI mxI l x.s) : Int), .int .i64 0, .int .i64 0, .string ⟨#[]⟩]) (want_none rfl) (ex_st rfl (ev s57 rfl) (ev s55 rfl) (M2.stAt 28 3 [.int .i64 (rI mxI l x.s : Int), .int .i64 (rI mxI l (sI mxI l x.s) : Int), .int .i64 0, .int .i64 0, .string ⟨#[]⟩] (by show 3 + 5 ≤ 18; omega) (by kernel_rfl) (by kernel_rfl))) rfl ?_
  have SP3 := M2.splice 3 [.int .i64 (rI mxI l x.s : Int), .int .i64 (rI mxI l (sI mxI l x.s) : Int), .int .i64 0, .int .i64 0, .string ⟨#[]⟩] { x.m with e := ⟨(rI mxI l x.s : Int), (rI mxI l (sI mxI l x.s) : Int), ⟨0, 0, ⟨#[]⟩⟩⟩ } s_ t_ (by show _ + _ ≤ 18; simp) rfl
  obtain ⟨w3, hw3⟩ : ∃ y, y = sets w2 qm 3 [.int .i64 (rI mxI l x.s : Int), .int .i64 (rI mxI l (sI mxI l x.s) : Int), .int .i64 0, .int .i64 0, .string ⟨#[]⟩] := ⟨_, rfl⟩
  rw [← hw3] at SP3 ⊢
  clear hw3
  have M3 := SP3.1
  have hR3 := hR2.ub SP3.2 (fun k hk => by omega)
  have B3 := B2.ub SP3.2 (by omega)
  have OL3 := OL2.far SP3.2 (fun k hk => by omega)
  have OD3 := OD2.far SP3.2 (fun k hk => by omega)
  refine wpList_nil ?_
  go_upto_region 16 with fail
  refine wp_region_lit ?_
  refine vt _ (ex_move rfl (ev s3 rfl)) hz (fun C_1 zz kk s58x => ?_)
  replace s1 := kt kk s1
  replace s3 := kt kk s3
  replace s4 := kt kk s4
  clear kk hz s55 s57
  have hz := zz
  have s58 := s58x
  clear zz s58x
  refine vt (.bool (!decide (q = 15))) (ex_bin rfl (ev s58 rfl) rfl (neqU8 _ _ _ _ _)) hz (fun C_2 zz kk s59x => ?_)
  replace s1 := kt kk s1
  replace s3 := kt kk s3
  replace s4 := kt kk s4
  clear kk hz s58
  have hz := zz
  have s59 := s59x
  clear zz s59x C_1
  refine wpList_nil ?_
  go_upto_region 17 with fail
  cases e6 : !decide (q = 15)
  · refine wp_cond_false ((ev s59 rfl).trans (congrArg Value.bool e6)) ?_
    go_wp2
    go_end0
    try rw [e6]
    exact ⟨rfl, ⟨_, _, M3, OL3, OD3⟩, hR3, (U2.b (UB.of_below hb01)).trans ((U2.b hu2).trans (U2.q SP3.2))⟩
  refine wp_cond_true ((ev s59 rfl).trans (congrArg Value.bool e6)) ?_
  go_upto_region 17 with fail
  refine wp_region_lit ?_
  refine vt _ (ex_move rfl (ev s1 rfl)) hz (fun D_1 zz kk s60x => ?_)
  replace s1 := kt kk s1
  replace s4 := kt kk s4
  clear kk hz s3 s59
  have hz := zz
  have s60 := s60x
  clear zz s60x
  refine vt (.agg #[.pointer (some ⟨b, 0, none⟩)]) (ex_ld rfl (ev s4 rfl) (ldRd (B3.cell 0 _ rfl))) hz (fun D_2 zz kk s61x => ?_)
  replace s1 := kt kk s1
  replace s60 := kt kk s60
  clear kk hz s4
  have hz := zz
  have s61 := s61x
  clear zz s61x D_1
  refine vcallP (want_none rfl) (ex_call rfl (by simp only [List.map_toArray, List.map_cons, List.map_nil, (ev s61 rfl), evc] <;> rfl) rfl) (rop_any N b l (s2 l x.s) w3 hR3) rfl hz (by decide) ?_
  rintro e w4 ⟨rfl, hR4, hu4⟩
  refine ⟨_, rfl, fun D_3 zz kk s62x => ?_⟩
  have B4 := B3.ub hu4 hqb
  have M4 := M3.upd hu4 (by omega)
  have OL4 := OL3.far hu4 (fun k hk => by omega)
  have OD4 := OD3.far hu4 (fun k hk => by omega)
  replace s1 := kt kk s1
  replace s60 := kt kk s60
  clear kk hz s61
  have hz := zz
  have s62 := s62x
  clear zz s62x D_2
  refine vt (.pointer (some ⟨qm, 0, none⟩)) (ex_nil rfl (ev s60 rfl)) hz (fun D_4 zz kk s63x => ?_)
  replace s1 := kt kk s1
  replace s62 := kt kk s62
  clear kk hz s60
  have hz := zz
  have s63 := s63x
  clear zz s63x D_3
  refine vt (.pointer (some ⟨qm, 3, none⟩)) (ex_fa rfl (ev s63 rfl) (MBox.faEntry _ _)) hz (fun D_5 zz kk s64x => ?_)
  replace s1 := kt kk s1
  replace s62 := kt kk s62
  clear kk hz s63
  have hz := zz
  have s64 := s64x
  clear zz s64x D_4
  refine vt (.pointer (some ⟨qm, 5, none⟩)) (ex_fa rfl (ev s64 rfl) (MBox.faOp _ _)) hz (fun D_6 zz kk s65x => ?_)
  replace s1 := kt kk s1
  replace s62 := kt kk s62
  clear kk hz s64
  have hz := zz
  have s65 := s65x
  clear zz s65x D_5
  refine vs (sets w4 qm 5 [.int .i64 (rO l (s2 l x.s)).k, .int .i64 (rO l (s2 l x.s)).s, .string (rO l (s2 l x.s)).v]) (want_none rfl) (ex_st rfl (ev s65 rfl) (ev s62 rfl) (M4.stAt 26 5 [.int .i64 (rO l (s2 l x.s)).k, .int .i64 (rO l (s2 l x.s)).s, .string (rO l (s2 l x.s)).v] (by show 5 + 3 ≤ 18; omega) (by kernel_rfl) (by kernel_rfl))) rfl ?_
  have SP5 := M4.splice 5 [.int .i64 (rO l (s2 l x.s)).k, .int .i64 (rO l (s2 l x.s)).s, .string (rO l (s2 l x.s)).v] { x.m with e := rE l x.s } s_ t_ (by show _ + _ ≤ 18; simp) rfl
  obtain ⟨w5, hw5⟩ : ∃ y, y = sets w4 qm 5 [.int .i64 (rO l (s2 l x.s)).k, .int .i64 (rO l (s2 l x.s)).s, .string (rO l (s2 l x.s)).v] := ⟨_, rfl⟩
  rw [← hw5] at SP5 ⊢
  clear hw5
  have M5 := SP5.1
  have hR5 := hR4.ub SP5.2 (fun k hk => by omega)
  have B5 := B4.ub SP5.2 (by omega)
  have OL5 := OL4.far SP5.2 (fun k hk => by omega)
  have OD5 := OD4.far SP5.2 (fun k hk => by omega)
  refine wpList_nil ?_
  go_wp2
  go_end0
  try rw [e6]
  exact ⟨rfl, ⟨_, _, M5, OL5, OD5⟩, hR5, (U2.b (UB.of_below hb01)).trans (((U2.b hu2).trans (U2.q SP3.2)).trans ((U2.b hu4).trans (U2.q SP5.2)))⟩
set_option maxRecDepth 100000 in
set_option maxHeartbeats 4000000 in
theorem rfield_7 (N b qm : Nat) (l : List Int) (x : Rst) (q : Int) (w : World) (hN : N ≤ qm) (hM : MS w qm x.m x.L x.D) (h : RD N w b l x.s) : Calls Tryd.prog 54 #[.agg #[.pointer (some ⟨b, 0, none⟩)], .pointer (some ⟨qm, 0, none⟩), .int .i64 7, .int .u8 q] w fun e w' => e = .returned (.tuple #[]) ∧ MS w' qm (rCol l x 7 (!decide (q = 15))).m (rCol l x 7 (!decide (q = 15))).L (rCol l x 7 (!decide (q = 15))).D ∧ RD N w' b l (rCol l x 7 (!decide (q = 15))).s ∧ U2 b qm w w' := by
  have hlt := h.lt
  obtain ⟨s_, t_, M0, OL0, OD0⟩ := hM
  have hqm := M0.lt
  have hqb : w.heap.size ≠ b := by omega
  go_enter Tryd.func54, Tryd.ntmps54
  go_upto_region 19 with fail
  obtain ⟨w1, hw1⟩ : ∃ w1, w1 = w.alloc (.cells #[.pointer (some ⟨b, 0, none⟩)] 102) := ⟨_, rfl⟩
  rw [← hw1]
  have hb01 : Below w.heap.size w w1 := by rw [hw1]; exact (Below.refl _ _).alloc (Nat.le_refl _) _
  have B1 : Bx w1 w.heap.size [.pointer (some ⟨b, 0, none⟩)] := by rw [hw1]; exact Bx.new w [.pointer (some ⟨b, 0, none⟩)] _
  have hR1 := h.later hb01
  have M1 := M0.bel hb01
  have OL1 := OL0.far (Upd.of_below (S := fun _ => False) hb01) (fun _ _ => id)
  have OD1 := OD0.far (Upd.of_below (S := fun _ => False) hb01) (fun _ _ => id)
  have hB1lt := B1.lt
  clear hw1
  refine wp_region_lit ?_
  refine vl_gen (fun T => T.size = 87 ∧ T[1]? = some (gw true (.pointer (some ⟨qm, 0, none⟩))) ∧ T[3]? = some (gw true (.int .u8 q)) ∧ T[4]? = some (gw true (.pointer (some ⟨w.heap.size, 0, none⟩)))) ⟨rfl, rfl, rfl, rfl⟩ (fun T0 ⟨hz, s1, s3, s4⟩ => ?_)
  refine vt _ (ex_move rfl (ev s1 rfl)) hz (fun A_1 zz kk s68x => ?_)
  replace s1 := kt kk s1
  replace s3 := kt kk s3
  replace s4 := kt kk s4
  clear kk hz
  have hz := zz
  have s68 := s68x
  clear zz s68x
  refine vt (.agg #[.pointer (some ⟨b, 0, none⟩)]) (ex_ld rfl (ev s4 rfl) (ldRd (B1.cell 0 _ rfl))) hz (fun A_2 zz kk s69x => ?_)
  replace s1 := kt kk s1
  replace s3 := kt kk s3
  replace s4 := kt kk s4
  replace s68 := kt kk s68
  clear kk hz
  have hz := zz
  have s69 := s69x
  clear zz s69x A_1
  refine vcallP (want_none rfl) (ex_call rfl (by simp only [List.map_toArray, List.map_cons, List.map_nil, (ev s69 rfl), evc] <;> rfl) rfl) (rresult_any N b l x.s w1 hR1) rfl hz (by decide) ?_
  rintro e w2 ⟨rfl, hR2, hu2⟩
  refine ⟨_, rfl, fun A_3 zz kk s70x => ?_⟩
  have B2 := B1.ub hu2 hqb
  have M2 := M1.upd hu2 (by omega)
  have OL2 := OL1.far hu2 (fun k hk => by omega)
  have OD2 := OD1.far hu2 (fun k hk => by omega)
  replace s1 := kt kk s1
  replace s3 := kt kk s3
  replace s4 := kt kk s4
  replace s68 := kt kk s68
  clear kk hz s69
  have hz := zz
  have s70 := s70x
  clear zz s70x A_2
  refine vt (.pointer (some ⟨qm, 0, none⟩)) (ex_nil rfl (ev s68 rfl)) hz (fun A_4 zz kk s71x => ?_)
  replace s1 := kt kk s1
  replace s3 := kt kk s3
  replace s4 := kt kk s4
  replace s70 := kt kk s70
  clear kk hz s68
  have hz := zz
  have s71 := s71x
  clear zz s71x A_3
  refine vt (.pointer (some ⟨qm, 8, none⟩)) (ex_fa rfl (ev s71 rfl) (MBox.faResult _ _)) hz (fun A_5 zz kk s72x => ?_)
  replace s1 := kt kk s1
  replace s3 := kt kk s3
  replace s4 := kt kk s4
  replace s70 := kt kk s70
  clear kk hz s71
  have hz := zz
  have s72 := s72x
  clear zz s72x A_4
  refine vs (sets w2 qm 8 [.int .i64 (rO l x.s).k, .int .i64 (rO l x.s).s, .string (rO l x.s).v]) (want_none rfl) (ex_st rfl (ev s72 rfl) (ev s70 rfl) (M2.stAt 30 8 [.int .i64 (rO l x.s).k, .int .i64 (rO l x.s).s, .string (rO l x.s).v] (by show 8 + 3 ≤ 18; omega) (by kernel_rfl) (by kernel_rfl))) rfl ?_
  have SP3 := M2.splice 8 [.int .i64 (rO l x.s).k, .int .i64 (rO l x.s).s, .string (rO l x.s).v] { x.m with r := ((rO l x.s).k, (rO l x.s).s, (rO l x.s).v) } s_ t_ (by show _ + _ ≤ 18; simp) rfl
  obtain ⟨w3, hw3⟩ : ∃ y, y = sets w2 qm 8 [.int .i64 (rO l x.s).k, .int .i64 (rO l x.s).s, .string (rO l x.s).v] := ⟨_, rfl⟩
  rw [← hw3] at SP3 ⊢
  clear hw3
  have M3 := SP3.1
  have hR3 := hR2.ub SP3.2 (fun k hk => by omega)
  have B3 := B2.ub SP3.2 (by omega)
  have OL3 := OL2.far SP3.2 (fun k hk => by omega)
  have OD3 := OD2.far SP3.2 (fun k hk => by omega)
  refine wpList_nil ?_
  go_wp2
  go_end0
  exact ⟨rfl, ⟨_, _, M3, OL3, OD3⟩, hR3, (U2.b (UB.of_below hb01)).trans ((U2.b hu2).trans (U2.q SP3.2))⟩
set_option maxRecDepth 100000 in
set_option maxHeartbeats 4000000 in
theorem rfield_8 (N b qm : Nat) (l : List Int) (x : Rst) (q : Int) (w : World) (hN : N ≤ qm) (hM : MS w qm x.m x.L x.D) (h : RD N w b l x.s) : Calls Tryd.prog 54 #[.agg #[.pointer (some ⟨b, 0, none⟩)], .pointer (some ⟨qm, 0, none⟩), .int .i64 8, .int .u8 q] w fun e w' => e = .returned (.tuple #[]) ∧ MS w' qm (rCol l x 8 (!decide (q = 15))).m (rCol l x 8 (!decide (q = 15))).L (rCol l x 8 (!decide (q = 15))).D ∧ RD N w' b l (rCol l x 8 (!decide (q = 15))).s ∧ U2 b qm w w' := by
  have hlt := h.lt
  obtain ⟨s_, t_, M0, OL0, OD0⟩ := hM
  have hqm := M0.lt
  have hqb : w.heap.size ≠ b := by omega
  go_enter Tryd.func54, Tryd.ntmps54
  go_upto_region 21 with fail
  obtain ⟨w1, hw1⟩ : ∃ w1, w1 = w.alloc (.cells #[.pointer (some ⟨b, 0, none⟩)] 102) := ⟨_, rfl⟩
  rw [← hw1]
  have hb01 : Below w.heap.size w w1 := by rw [hw1]; exact (Below.refl _ _).alloc (Nat.le_refl _) _
  have B1 : Bx w1 w.heap.size [.pointer (some ⟨b, 0, none⟩)] := by rw [hw1]; exact Bx.new w [.pointer (some ⟨b, 0, none⟩)] _
  have hR1 := h.later hb01
  have M1 := M0.bel hb01
  have OL1 := OL0.far (Upd.of_below (S := fun _ => False) hb01) (fun _ _ => id)
  have OD1 := OD0.far (Upd.of_below (S := fun _ => False) hb01) (fun _ _ => id)
  have hB1lt := B1.lt
  clear hw1
  refine wp_region_lit ?_
  refine vl_gen (fun T => T.size = 87 ∧ T[1]? = some (gw true (.pointer (some ⟨qm, 0, none⟩))) ∧ T[3]? = some (gw true (.int .u8 q)) ∧ T[4]? = some (gw true (.pointer (some ⟨w.heap.size, 0, none⟩)))) ⟨rfl, rfl, rfl, rfl⟩ (fun T0 ⟨hz, s1, s3, s4⟩ => ?_)
  refine vt _ (ex_move rfl (ev s1 rfl)) hz (fun A_1 zz kk s75x => ?_)
  replace s1 := kt kk s1
  replace s3 := kt kk s3
  replace s4 := kt kk s4
  clear kk hz
  have hz := zz
  have s75 := s75x
  clear zz s75x
  refine vt (.agg #[.pointer (some ⟨b, 0, none⟩)]) (ex_ld rfl (ev s4 rfl) (ldRd (B1.cell 0 _ rfl))) hz (fun A_2 zz kk s76x => ?_)
  replace s1 := kt kk s1
  replace s3 := kt kk s3
  replace s4 := kt kk s4
  replace s75 := kt kk s75
  clear kk hz
  have hz := zz
  have s76 := s76x
  clear zz s76x A_1
  refine vcallP (want_none rfl) (ex_call rfl (by simp only [List.map_toArray, List.map_cons, List.map_nil, (ev s76 rfl), evc] <;> rfl) rfl) (rlog_any N b l x.s w1 hR1) rfl hz (by decide) ?_
  rintro e w2 ⟨v2, rfl, O2, hR2, hu2⟩; obtain ⟨av, cv_, rfl, _⟩ := O2.form
  refine ⟨_, rfl, fun A_3 zz kk s77x => ?_⟩
  have B2 := B1.ub hu2 hqb
  have M2 := M1.upd hu2 (by omega)
  have OL2 := OL1.far hu2 (fun k hk => by omega)
  have OD2 := OD1.far hu2 (fun k hk => by omega)
  replace s1 := kt kk s1
  replace s3 := kt kk s3
  replace s4 := kt kk s4
  replace s75 := kt kk s75
  clear kk hz s76
  have hz := zz
  have s77 := s77x
  clear zz s77x A_2
  refine vt (.pointer (some ⟨qm, 0, none⟩)) (ex_nil rfl (ev s75 rfl)) hz (fun A_4 zz kk s78x => ?_)
  replace s1 := kt kk s1
  replace s3 := kt kk s3
  replace s4 := kt kk s4
  replace s77 := kt kk s77
  clear kk hz s75
  have hz := zz
  have s78 := s78x
  clear zz s78x A_3
  refine vt (.pointer (some ⟨qm, 16, none⟩)) (ex_fa rfl (ev s78 rfl) (MBox.faLog _ _)) hz (fun A_5 zz kk s79x => ?_)
  replace s1 := kt kk s1
  replace s3 := kt kk s3
  replace s4 := kt kk s4
  replace s77 := kt kk s77
  clear kk hz s78
  have hz := zz
  have s79 := s79x
  clear zz s79x A_4
  refine vs (sets w2 qm 16 [.slice av (esL l (sI 256 l x.s) (rI 256 l x.s)).length cv_]) (want_none rfl) (ex_st rfl (ev s79 rfl) (ev s77 rfl) (stSlE _ _ _ (M2.cell 16 _ rfl) (M2.free 16))) rfl ?_
  have SP3 := M2.splice 16 [.slice av (esL l (sI 256 l x.s) (rI 256 l x.s)).length cv_] x.m (.slice av (esL l (sI 256 l x.s) (rI 256 l x.s)).length cv_) t_ (by show _ + _ ≤ 18; simp) rfl
  obtain ⟨w3, hw3⟩ : ∃ y, y = sets w2 qm 16 [.slice av (esL l (sI 256 l x.s) (rI 256 l x.s)).length cv_] := ⟨_, rfl⟩
  rw [← hw3] at SP3 ⊢
  clear hw3
  have M3 := SP3.1
  have hR3 := hR2.ub SP3.2 (fun k hk => by omega)
  have B3 := B2.ub SP3.2 (by omega)
  have OL3 := OL2.far SP3.2 (fun k hk => by omega)
  have OD3 := OD2.far SP3.2 (fun k hk => by omega)
  refine wpList_nil ?_
  go_wp2
  go_end0
  exact ⟨rfl, ⟨_, _, M3, ((O2.low (show qm + 1 ≤ w1.heap.size by omega)).far SP3.2 (fun k hk => by omega)), OD3⟩, hR3, (U2.b (UB.of_below hb01)).trans ((U2.b hu2).trans (U2.q SP3.2))⟩
set_option maxRecDepth 100000 in
set_option maxHeartbeats 4000000 in
theorem rfield_9 (N b qm : Nat) (l : List Int) (x : Rst) (q : Int) (w : World) (hN : N ≤ qm) (hM : MS w qm x.m x.L x.D) (h : RD N w b l x.s) : Calls Tryd.prog 54 #[.agg #[.pointer (some ⟨b, 0, none⟩)], .pointer (some ⟨qm, 0, none⟩), .int .i64 9, .int .u8 q] w fun e w' => e = .returned (.tuple #[]) ∧ MS w' qm (rCol l x 9 (!decide (q = 15))).m (rCol l x 9 (!decide (q = 15))).L (rCol l x 9 (!decide (q = 15))).D ∧ RD N w' b l (rCol l x 9 (!decide (q = 15))).s ∧ U2 b qm w w' := by
  have hlt := h.lt
  obtain ⟨s_, t_, M0, OL0, OD0⟩ := hM
  have hqm := M0.lt
  have hqb : w.heap.size ≠ b := by omega
  go_enter Tryd.func54, Tryd.ntmps54
  go_upto_region 23 with fail
  obtain ⟨w1, hw1⟩ : ∃ w1, w1 = w.alloc (.cells #[.pointer (some ⟨b, 0, none⟩)] 102) := ⟨_, rfl⟩
  rw [← hw1]
  have hb01 : Below w.heap.size w w1 := by rw [hw1]; exact (Below.refl _ _).alloc (Nat.le_refl _) _
  have B1 : Bx w1 w.heap.size [.pointer (some ⟨b, 0, none⟩)] := by rw [hw1]; exact Bx.new w [.pointer (some ⟨b, 0, none⟩)] _
  have hR1 := h.later hb01
  have M1 := M0.bel hb01
  have OL1 := OL0.far (Upd.of_below (S := fun _ => False) hb01) (fun _ _ => id)
  have OD1 := OD0.far (Upd.of_below (S := fun _ => False) hb01) (fun _ _ => id)
  have hB1lt := B1.lt
  clear hw1
  refine wp_region_lit ?_
  refine vl_gen (fun T => T.size = 87 ∧ T[1]? = some (gw true (.pointer (some ⟨qm, 0, none⟩))) ∧ T[3]? = some (gw true (.int .u8 q)) ∧ T[4]? = some (gw true (.pointer (some ⟨w.heap.size, 0, none⟩)))) ⟨rfl, rfl, rfl, rfl⟩ (fun T0 ⟨hz, s1, s3, s4⟩ => ?_)
  refine vt _ (ex_move rfl (ev s1 rfl)) hz (fun A_1 zz kk s82x => ?_)
  replace s1 := kt kk s1
  replace s3 := kt kk s3
  replace s4 := kt kk s4
  clear kk hz
  have hz := zz
  have s82 := s82x
  clear zz s82x
  refine vt (.agg #[.pointer (some ⟨b, 0, none⟩)]) (ex_ld rfl (ev s4 rfl) (ldRd (B1.cell 0 _ rfl))) hz (fun A_2 zz kk s83x => ?_)
  replace s1 := kt kk s1
  replace s3 := kt kk s3
  replace s4 := kt kk s4
  replace s82 := kt kk s82
  clear kk hz
  have hz := zz
  have s83 := s83x
  clear zz s83x A_1
  refine vcallP (want_none rfl) (ex_call rfl (by simp only [List.map_toArray, List.map_cons, List.map_nil, (ev s83 rfl), evc] <;> rfl) rfl) (rvector_any N b l x.s w1 hR1) rfl hz (by decide) ?_
  rintro e w2 ⟨v2, rfl, O2, hR2, hu2⟩; obtain ⟨av, cv_, rfl, _⟩ := O2.form
  refine ⟨_, rfl, fun A_3 zz kk s84x => ?_⟩
  have B2 := B1.ub hu2 hqb
  have M2 := M1.upd hu2 (by omega)
  have OL2 := OL1.far hu2 (fun k hk => by omega)
  have OD2 := OD1.far hu2 (fun k hk => by omega)
  replace s1 := kt kk s1
  replace s3 := kt kk s3
  replace s4 := kt kk s4
  replace s82 := kt kk s82
  clear kk hz s83
  have hz := zz
  have s84 := s84x
  clear zz s84x A_2
  refine vt (.pointer (some ⟨qm, 0, none⟩)) (ex_nil rfl (ev s82 rfl)) hz (fun A_4 zz kk s85x => ?_)
  replace s1 := kt kk s1
  replace s3 := kt kk s3
  replace s4 := kt kk s4
  replace s84 := kt kk s84
  clear kk hz s82
  have hz := zz
  have s85 := s85x
  clear zz s85x A_3
  refine vt (.pointer (some ⟨qm, 17, none⟩)) (ex_fa rfl (ev s85 rfl) (MBox.faVector _ _)) hz (fun A_5 zz kk s86x => ?_)
  replace s1 := kt kk s1
  replace s3 := kt kk s3
  replace s4 := kt kk s4
  replace s84 := kt kk s84
  clear kk hz s85
  have hz := zz
  have s86 := s86x
  clear zz s86x A_4
  refine vs (sets w2 qm 17 [.slice av (dsL l (sI 7 l x.s) (rI 7 l x.s)).length cv_]) (want_none rfl) (ex_st rfl (ev s86 rfl) (ev s84 rfl) (stSlD _ _ _ (M2.cell 17 _ rfl) (M2.free 17))) rfl ?_
  have SP3 := M2.splice 17 [.slice av (dsL l (sI 7 l x.s) (rI 7 l x.s)).length cv_] x.m s_ (.slice av (dsL l (sI 7 l x.s) (rI 7 l x.s)).length cv_) (by show _ + _ ≤ 18; simp) rfl
  obtain ⟨w3, hw3⟩ : ∃ y, y = sets w2 qm 17 [.slice av (dsL l (sI 7 l x.s) (rI 7 l x.s)).length cv_] := ⟨_, rfl⟩
  rw [← hw3] at SP3 ⊢
  clear hw3
  have M3 := SP3.1
  have hR3 := hR2.ub SP3.2 (fun k hk => by omega)
  have B3 := B2.ub SP3.2 (by omega)
  have OL3 := OL2.far SP3.2 (fun k hk => by omega)
  have OD3 := OD2.far SP3.2 (fun k hk => by omega)
  refine wpList_nil ?_
  go_wp2
  go_end0
  exact ⟨rfl, ⟨_, _, M3, OL3, ((O2.low (show qm + 1 ≤ w1.heap.size by omega)).far SP3.2 (fun k hk => by omega))⟩, hR3, (U2.b (UB.of_below hb01)).trans ((U2.b hu2).trans (U2.q SP3.2))⟩
theorem rfield_all (N b qm : Nat) (l : List Int) (x : Rst) (j : Nat) (hj : j < 10) (q : Int) (w : World) (hN : N ≤ qm) (hM : MS w qm x.m x.L x.D) (h : RD N w b l x.s) : Calls Tryd.prog 54 #[.agg #[.pointer (some ⟨b, 0, none⟩)], .pointer (some ⟨qm, 0, none⟩), .int .i64 (j : Int), .int .u8 q] w fun e w' => e = .returned (.tuple #[]) ∧ MS w' qm (rCol l x j (!decide (q = 15))).m (rCol l x j (!decide (q = 15))).L (rCol l x j (!decide (q = 15))).D ∧ RD N w' b l (rCol l x j (!decide (q = 15))).s ∧ U2 b qm w w' := by
  match j, hj with
  | 0, _ => exact rfield_0 N b qm l x q w hN hM h
  | 1, _ => exact rfield_1 N b qm l x q w hN hM h
  | 2, _ => exact rfield_2 N b qm l x q w hN hM h
  | 3, _ => exact rfield_3 N b qm l x q w hN hM h
  | 4, _ => exact rfield_4 N b qm l x q w hN hM h
  | 5, _ => exact rfield_5 N b qm l x q w hN hM h
  | 6, _ => exact rfield_6 N b qm l x q w hN hM h
  | 7, _ => exact rfield_7 N b qm l x q w hN hM h
  | 8, _ => exact rfield_8 N b qm l x q w hN hM h
  | 9, _ => exact rfield_9 N b qm l x q w hN hM h
  | (k + 10), hk => exact absurd hk (by omega)
def zG : Mg := ⟨0, 0, 0, ⟨0, 0, ⟨0, 0, ⟨#[]⟩⟩⟩, (0, 0, ⟨#[]⟩), 0, 0, 0, (0, 0)⟩
def nilS : Value := .slice none 0 0
def rCols (l : List Int) (k : Nat) (x : Rst) : Nat → Rst
  | 0 => x
  | j + 1 => if tabA k j = 0 then rCols l k x j else rCol l (rCols l k x j) j (!decide ((tabA k j : Int) = 15))
def rdM (l : List Int) : Rst × Int :=
  if ¬ (sI mxI l (0, 0)).2 = 0 then (⟨zG, [], [], (0, 0)⟩, (sI mxI l (0, 0)).2)
  else if kdB (rI mxI l (0, 0) : Int) = false then (⟨zG, [], [], (0, 0)⟩, 70)
  else let x := rCols l (rI mxI l (0, 0)) ⟨{ zG with k := (rI mxI l (0, 0) : Int) }, [], [], sI mxI l (0, 0)⟩ 10
    (x, Wi.endErr l.length x.s.1 x.s.2)
theorem first_at (l : List Int) : (sI mxI l (0, 0)).1 = 0 ↔ ¬ (sI mxI l (0, 0)).2 = 0 := by
  show 0 + Wi.sel 0 (Wi.tcSize mxI (l.drop 0)) = 0 ↔ ¬ Wi.selE 0 (Wi.tcErr mxI (l.drop 0)) = 0
  rw [Wi.sel_ok, Wi.selE_ok, Nat.zero_add]
  unfold Wi.tcSize
  constructor
  · intro h h0
    rw [if_pos h0] at h
    unfold Wi.tcErr at h0
    have ht : Wi.tnErr (l.drop 0) = 0 := by
      split at h0
      · omega
      · split at h0
        · omega
        · rename_i h2; omega
    unfold Wi.tnSize at h
    rw [if_pos ht] at h
    omega
  · intro h
    rw [if_neg h]
theorem rd_At (N b : Nat) (l : List Int) (s : Nat × Int) (w : World) (h : RD N w b l s) : Calls Tryd.prog 52 #[.pointer (some ⟨b, 0, none⟩)] w fun e w' => e = .returned (.int .i64 (s.1 : Int)) ∧ w' = w := by
  obtain ⟨a, n, c, h, _⟩ := h
  exact Wi.rd_at b a n c l s.1 s.2 w h
theorem rd_End (N b : Nat) (l : List Int) (s : Nat × Int) (w : World) (h : RD N w b l s) : Calls Tryd.prog 53 #[.pointer (some ⟨b, 0, none⟩)] w fun e w' => e = .returned (.int .i64 (Wi.endErr l.length s.1 s.2)) ∧ Below w.heap.size w w' := by
  obtain ⟨a, n, c, h, _⟩ := h
  have := Wi.rd_end b a n c l s.1 s.2 w h
  rw [← h.hs.len] at this
  refine this.mono ?_
  rintro e w' ⟨rfl, k, rfl⟩
  exact ⟨rfl, belN (Below.refl _ _) k⟩
theorem alM (w : World) : (Instr.alloc 38 true (.tuple #[])).run Tryd.prog w = .ok (.pointer (some ⟨w.heap.size, 0, none⟩)) (w.alloc (.cells (zG.cs nilS nilS).toArray 38)) := by
  go_simp
  first | done | rfl
theorem bdM (k : Int) (w : World) : (Instr.build 38 #[(0, .int .i64 k)]).run Tryd.prog w = .ok (({ zG with k := k } : Mg).val nilS nilS) w := by
  go_simp
  first | done | rfl
theorem bdM0 (w : World) : (Instr.build 38 #[]).run Tryd.prog w = .ok (zG.val nilS nilS) w := by
  go_simp
  first | done | rfl
theorem bdRd (b : Nat) (w : World) : (Instr.build 102 #[(0, .pointer (some ⟨b, 0, none⟩))]).run Tryd.prog w = .ok (.agg #[.pointer (some ⟨b, 0, none⟩)]) w := by
  go_simp
theorem alRd (w : World) : (Instr.alloc 102 true (.tuple #[])).run Tryd.prog w = .ok (.pointer (some ⟨w.heap.size, 0, none⟩)) (w.alloc (.cells #[.pointer none] 102)) := by
  go_simp
theorem bodyPost_msg {fn : Func} {i u : Tmp} {q : Nat} {m : Mg} {s t V : Value} {T : Array Value} {w : World} {R : Ending → World → Prop} (h : fn.results = #[.cell i 38, .tmp u]) (hq : T[i]? = some (gw true (.pointer (some ⟨q, 0, none⟩)))) (hu : T[u]? = some (gw true V)) (hb : MBox w q m s t) (hR : R (.returned (.tuple #[m.val s t, V])) w) : bodyPost Tryd.prog fn R .ret ⟨T, []⟩ w := by
  refine bodyPost_ret (v := .tuple #[m.val s t, V]) ?_ rfl hR
  have hl := run_loadVar_mid (P := Tryd.prog) w q 0 38 (m.cs s t) _ (fun j v hv => by rw [Nat.zero_add]; exact hb.cell j v hv) Tryd.underlying38 rfl (by kernel_rfl)
  have hq' : T.getD i undef = .pointer (some ⟨q, 0, none⟩) := getD_of hq
  have hu' : T.getD u undef = V := getD_of hu
  rw [results_cell_tmp h]
  simp only [hq', hu', asAddr, Sem.run_pure, Result.andThen_ok, hl]
  rfl
theorem vh_store {ops : Array Oper} {o : Oper} {T : Array Value} {df : List Deferred} {w : World} {Q : Exit → Act → World → Prop} {S : World → Prop} {fuel : Nat} {listed : Array Bool} (i : Nat) (w' : World) (hi : ops[i]? = some o) (hr : Region.ready .any ops listed = [i])
    (hw : Region.wanted o (yielded ops T) = true) (he : (execOp (⟨T, df⟩ : Act).eval o).run Tryd.prog w = .ok .skip w') (hd : o.dst = none) (hS : S w')
    (hk : VH ops Q S fuel (listed.setIfInBounds i true) ⟨T, df⟩ w') : VH ops Q S (fuel + 1) listed ⟨T, df⟩ w := by
  refine ⟨wpAnyH_all hr (by simp) (fun j hj => ?_)⟩
  obtain rfl : j = i := by simpa using hj
  unfold wpOp
  rw [hi]
  simp only [hw, if_true]
  refine .inl ?_
  unfold Oper.wp
  rw [he, Oper.upon_skip]
  refine ⟨hS, ?_⟩
  rw [hd]
  exact hk.out
theorem MBox.new0 (w : World) : MBox (w.alloc (.cells (zG.cs nilS nilS).toArray 38)) w.heap.size zG nilS nilS := MBox.new w zG nilS nilS
theorem stM {w : World} {q : Nat} {m : Mg} {s t : Value} (h : MBox w q m s t) (m' : Mg) (s' t' : Value) (h1 : s'.oneCell' = true) (h2 : t'.oneCell' = true) : (Instr.storeAt 38 (.pointer (some ⟨q, 0, none⟩)) (m'.val s' t')).run Tryd.prog w = .ok () (sets w q 0 (m'.cs s' t')) := run_storeM h m' s' t' h1 h2
theorem MBox.putU {w : World} {q : Nat} {m : Mg} {s t : Value} (h : MBox w q m s t) (m' : Mg) (s' t' : Value) : MBox (sets w q 0 (m'.cs s' t')) q m' s' t' ∧ UB q w (sets w q 0 (m'.cs s' t')) := ⟨h.put m' s' t', upd_sets (S := fun b => b = q) (b := q) rfl _ _ _ (Upd.refl _ _)⟩
theorem eqlKd (x y : Operand) (a b : Int) (w : World) : (do eqGuard .eql 3 x y (.int .i64 a) (.int .i64 b); binOp .eql 3 (.int .i64 a) (.int .i64 b) : Sem Value).run Tryd.prog w = .ok (.bool (decide (a = b))) w := eqlC x y a b w
theorem rCols_none {l : List Int} {k j : Nat} {x : Rst} (h : tabA k j = 0) : rCols l k x (j + 1) = rCols l k x j := by
  show (if _ then _ else _) = _
  rw [if_pos h]
theorem rCols_some {l : List Int} {k j : Nat} {x : Rst} (h : ¬ tabA k j = 0) : rCols l k x (j + 1) = rCol l (rCols l k x j) j (!decide ((tabA k j : Int) = 15)) := by
  show (if _ then _ else _) = _
  rw [if_neg h]
theorem cell_lt {w : World} {x : Addr} {v : Value} (h : w.cell? (x.add 0) = some v) : x.block < w.heap.size := by
  by_cases hx : x.block < w.heap.size
  · exact hx
  · exfalso
    have e : (x.add 0).block = x.block := rfl
    have hn : w.heap[(x.add 0).block]? = none := by rw [e]; exact Array.getElem?_eq_none (by omega)
    unfold World.cell? at h
    rw [hn] at h
    cases h
theorem RD.new {w : World} {b : Nat} {a : Option Addr} {n c : Nat} {l : List Int} (h : Wi.RSt w b a n c l 0 0) : RD w.heap.size w b l (0, 0) := by
  refine ⟨a, n, c, h, h.lt, Nat.le_refl _, fun x hx hl => ?_⟩
  have hr := h.hs.row x hx 0 hl
  exact cell_lt hr
theorem Bx.ub2 {w w' : World} {q b p : Nat} {cs : List Value} (h : Bx w q cs) (u : U2 b p w w') (hq : q ≠ b) (hp : q ≠ p) : Bx w' q cs :=
  ⟨Nat.lt_of_lt_of_le h.lt u.size, fun i x hx => (u.cell (p := ⟨q, i, none⟩) h.lt (fun e => e.elim hq hp)).trans (h.cell i x hx), fun i => (u.frozen (p := ⟨q, i, none⟩) h.lt (fun e => e.elim hq hp)).trans (h.free i)⟩
theorem OwnY.later8 {α : Type} {Y : Lay α} {B : Nat} {w w' : World} {v : Value} {l : List α} (h : OwnY Y B w v l) (hb : Below w.heap.size w w') : OwnY Y B w' v l := h.far (Upd.of_below (S := fun _ => False) hb) (fun _ _ => id)
set_option maxRecDepth 100000 in
set_option maxHeartbeats 8000000 in
theorem readM_any (a : Option Addr) (n c : Nat) (l : List Int) (w : World) (hH : Wi.Hs w a n c l) (hm : n ≤ 140737488355328) (hT : Tab w) :
    Calls Tryd.prog 25 #[.slice a n c] w fun e w' => ∃ s t, e = .returned (.tuple #[(rdM l).1.m.val s t, .int .i64 (rdM l).2]) ∧ OwnY yE w.heap.size w' s (rdM l).1.L ∧ OwnY yD w.heap.size w' t (rdM l).1.D ∧ Below w.heap.size w w' := by
  go_enter Tryd.func25, Tryd.ntmps25
  go_upto_region 0 with fail
  refine wp_region_lit ?_
  refine vl_gen (fun T => T.size = 48 ∧ T[0]? = some (gw true (.slice a n c))) ⟨rfl, rfl⟩ (fun Z0 ⟨hz, s0⟩ => ?_)
  obtain ⟨w1, hw1⟩ : ∃ w1, w1 = w.alloc (.cells (zG.cs nilS nilS).toArray 38) := ⟨_, rfl⟩
  have hB01 : Below w.heap.size w w1 := by rw [hw1]; exact (Below.refl _ _).alloc (Nat.le_refl _) _
  have hs1 : w1.heap.size = w.heap.size + 1 := by rw [hw1]; simp
  have M1 : MBox w1 w.heap.size zG nilS nilS := by rw [hw1]; exact MBox.new0 w
  have hH1 := hH.later hB01
  refine vw (.pointer (some ⟨w.heap.size, 0, none⟩)) w1 (want_none rfl) (ex_al rfl (by rw [hw1]; exact alM _)) rfl hz (by decide) (fun Z1 zz kk s2x => ?_)
  replace s0 := kt kk s0
  clear kk hz hw1
  have hz := zz
  have s2 := s2x
  clear zz s2x
  refine vt (.int .i64 0) (ex_assign rfl rfl) hz (fun Z2 zz kk s3x => ?_)
  replace s0 := kt kk s0
  replace s2 := kt kk s2
  clear kk hz s3x
  have hz := zz
  clear zz
  refine wpList_nil ?_
  go_upto_region 1 with fail
  refine wp_region_lit ?_
  refine vt _ (ex_move rfl (ev s0 rfl)) hz (fun A1_1 zz kk s8x => ?_)
  replace s2 := kt kk s2
  clear kk hz s0
  have hz := zz
  have s8 := s8x
  clear zz s8x
  refine vcallP (want_none rfl) (ex_call rfl (by simp only [List.map_toArray, List.map_cons, List.map_nil, (ev s8 rfl), evc] <;> rfl) rfl) (Wi.newreader_any a n c l w1 hH1 hm) rfl hz (by decide) ?_
  rintro e w2 ⟨b, ar, cr, rfl, hRS, hbb, hb2⟩
  refine ⟨_, rfl, fun A1_2 zz kk s9x => ?_⟩
  have hR2 := RD.new hRS
  have hbl := hR2.lt
  obtain ⟨qr, hqr⟩ : ∃ qr, qr = w2.heap.size := ⟨_, rfl⟩
  obtain ⟨w3, hw3⟩ : ∃ y, y = w2.alloc (.cells #[.pointer none] 102) := ⟨_, rfl⟩
  have hb23 : Below w2.heap.size w2 w3 := by rw [hw3]; exact (Below.refl _ _).alloc (Nat.le_refl _) _
  have hs2 := hb2.size
  have hs3 : w3.heap.size = w2.heap.size + 1 := by rw [hw3]; simp
  have BR0 : Bx w3 qr [.pointer none] := by rw [hw3, hqr]; exact Bx.new w2 [.pointer none] _
  have hR3 := hR2.later hb23
  have M3 := (M1.bel hb2).bel hb23
  replace s2 := kt kk s2
  clear kk hz s8
  have hz := zz
  have s9 := s9x
  clear zz s9x A1_1
  refine vt (.agg #[.pointer (some ⟨b, 0, none⟩)]) (ex_buildP rfl (by simp only [List.map_toArray, List.map_cons, List.map_nil, (ev s9 rfl)] <;> rfl) (bdRd _ _)) hz (fun A1_3 zz kk s10x => ?_)
  replace s2 := kt kk s2
  clear kk hz s9
  have hz := zz
  have s10 := s10x
  clear zz s10x A1_2
  refine vw (.pointer (some ⟨qr, 0, none⟩)) w3 (want_none rfl) (ex_al rfl (by rw [hw3, hqr]; exact alRd _)) rfl hz (by decide) (fun A1_4 zz kk s4x => ?_)
  replace s2 := kt kk s2
  replace s10 := kt kk s10
  clear kk hz
  have hz := zz
  have s4 := s4x
  clear zz s4x A1_3
  refine vs (sets w3 qr 0 [.pointer (some ⟨b, 0, none⟩)]) (want_none rfl) (ex_st rfl (ev s4 rfl) (ev s10 rfl) (BR0.st 102 [.pointer (some ⟨b, 0, none⟩)] rfl (by kernel_rfl) (by kernel_rfl))) rfl ?_
  have SP4 := BR0.put [.pointer (some ⟨b, 0, none⟩)] (Nat.le_refl _)
  obtain ⟨w4, hw4⟩ : ∃ y, y = sets w3 qr 0 [.pointer (some ⟨b, 0, none⟩)] := ⟨_, rfl⟩
  rw [← hw4] at SP4 ⊢
  have BR4 := SP4.1
  have hR4 := hR3.ub SP4.2 (fun k hk => by omega)
  have M4 := M3.upd SP4.2 (by omega)
  have hs4 := SP4.2.size
  have hs4e : w4.heap.size = w3.heap.size := by rw [hw4, size_sets]
  clear hw4 hw3
  refine wpList_nil ?_
  go_upto_region 2 with fail
  refine wp_region_lit ?_
  refine vt (.agg #[.pointer (some ⟨b, 0, none⟩)]) (ex_ld rfl (ev s4 rfl) (ldRd (BR4.cell 0 _ rfl))) hz (fun A2_1 zz kk s11x => ?_)
  replace s2 := kt kk s2
  replace s4 := kt kk s4
  clear kk hz s10
  have hz := zz
  have s11 := s11x
  clear zz s11x
  refine vcallP (want_none rfl) (ex_call rfl (by simp only [List.map_toArray, List.map_cons, List.map_nil, (ev s11 rfl), evc] <;> rfl) rfl) (rnumber_any w2.heap.size b l (0, 0) w4 hR4) rfl hz (by decide) ?_
  rintro e w5 ⟨rfl, hR5, hu5⟩
  refine ⟨_, rfl, fun A2_2 zz kk s12x => ?_⟩
  have BR5 := BR4.ub hu5 (by omega)
  have M5 := M4.upd hu5 (by omega)
  have hs5 := hu5.size
  obtain ⟨qm, hqm⟩ : ∃ qm, qm = w5.heap.size := ⟨_, rfl⟩
  obtain ⟨w6, hw6⟩ : ∃ y, y = w5.alloc (.cells (zG.cs nilS nilS).toArray 38) := ⟨_, rfl⟩
  have hb56 : Below w5.heap.size w5 w6 := by rw [hw6]; exact (Below.refl _ _).alloc (Nat.le_refl _) _
  have hs6 : w6.heap.size = w5.heap.size + 1 := by rw [hw6]; simp
  have MM6 : MBox w6 qm zG nilS nilS := by rw [hw6, hqm]; exact MBox.new0 w5
  have BR6 := BR5.later hb56
  have hR6 := hR5.later hb56
  have M6 := M5.bel hb56
  replace s2 := kt kk s2
  replace s4 := kt kk s4
  clear kk hz s11
  have hz := zz
  have s12 := s12x
  clear zz s12x A2_1
  refine vt (({ zG with k := ((rI mxI l (0, 0)) : Int) } : Mg).val nilS nilS) (ex_buildP rfl (by simp only [List.map_toArray, List.map_cons, List.map_nil, (ev s12 rfl)] <;> rfl) (bdM _ _)) hz (fun A2_3 zz kk s13x => ?_)
  replace s2 := kt kk s2
  replace s4 := kt kk s4
  clear kk hz s12
  have hz := zz
  have s13 := s13x
  clear zz s13x A2_2
  refine vw (.pointer (some ⟨qm, 0, none⟩)) w6 (want_none rfl) (ex_al rfl (by rw [hw6, hqm]; exact alM _)) rfl hz (by decide) (fun A2_4 zz kk s5x => ?_)
  replace s2 := kt kk s2
  replace s4 := kt kk s4
  replace s13 := kt kk s13
  clear kk hz
  have hz := zz
  have s5 := s5x
  clear zz s5x A2_3
  refine vs (sets w6 qm 0 (({ zG with k := ((rI mxI l (0, 0)) : Int) } : Mg).cs nilS nilS)) (want_none rfl) (ex_st rfl (ev s5 rfl) (ev s13 rfl) (stM MM6 ({ zG with k := ((rI mxI l (0, 0)) : Int) } : Mg) nilS nilS rfl rfl)) rfl ?_
  have SP7 := MM6.putU ({ zG with k := ((rI mxI l (0, 0)) : Int) } : Mg) nilS nilS
  obtain ⟨w7, hw7⟩ : ∃ y, y = sets w6 qm 0 (({ zG with k := ((rI mxI l (0, 0)) : Int) } : Mg).cs nilS nilS) := ⟨_, rfl⟩
  rw [← hw7] at SP7 ⊢
  have MM7 := SP7.1
  have hs7 : w7.heap.size = w6.heap.size := by rw [hw7, size_sets]
  clear hw7 hw6
  have BR7 := BR6.ub SP7.2 (by omega)
  have hR7 := hR6.ub SP7.2 (fun k hk => by omega)
  have M7 := M6.upd SP7.2 (by omega)
  have hB7 : Below w.heap.size w w7 := hB01.trans ((hb2.mono (by omega)).trans ((hb23.mono (by omega)).trans ((SP4.2.below (by omega) (by omega)).trans ((hu5.below (by omega) (by omega)).trans ((hb56.mono (by omega)).trans (SP7.2.below (by omega) (by omega)))))))
  refine wpList_nil ?_
  go_upto_region 3 with fail
  refine wp_region_lit ?_
  refine vt (.pointer (some ⟨qr, 0, none⟩)) (ex_fa rfl (ev s4 rfl) (by go_simp)) hz (fun A3_1 zz kk s15x => ?_)
  replace s2 := kt kk s2
  replace s4 := kt kk s4
  replace s5 := kt kk s5
  clear kk hz s13
  have hz := zz
  have s15 := s15x
  clear zz s15x
  refine vt (.pointer (some ⟨b, 0, none⟩)) (ex_ld rfl (ev s15 rfl) (ldRp (BR7.cell 0 _ rfl))) hz (fun A3_2 zz kk s16x => ?_)
  replace s2 := kt kk s2
  replace s4 := kt kk s4
  replace s5 := kt kk s5
  clear kk hz s15
  have hz := zz
  have s16 := s16x
  clear zz s16x A3_1
  refine vcallP (want_none rfl) (ex_call rfl (by simp only [List.map_toArray, List.map_cons, List.map_nil, (ev s16 rfl), evc] <;> rfl) rfl) (rd_At w2.heap.size b l (sI mxI l (0, 0)) w7 hR7) rfl hz (by decide) ?_
  rintro e w7_ ⟨rfl, hw77⟩; rw [hw77]; clear hw77 w7_
  refine ⟨_, rfl, fun A3_3 zz kk s17x => ?_⟩
  replace s2 := kt kk s2
  replace s4 := kt kk s4
  replace s5 := kt kk s5
  clear kk hz s16
  have hz := zz
  have s17 := s17x
  clear zz s17x A3_2
  refine vt (.bool (decide (((sI mxI l (0, 0)).1 : Int) = 0))) (ex_bin rfl (ev s17 rfl) rfl (eqlKd _ _ _ _ _)) hz (fun A3_4 zz kk s18x => ?_)
  replace s2 := kt kk s2
  replace s4 := kt kk s4
  replace s5 := kt kk s5
  clear kk hz s17
  have hz := zz
  have s18 := s18x
  clear zz s18x A3_3
  refine vt _ (ex_assign rfl (ev s18 rfl)) hz (fun A3_5 zz kk s14x => ?_)
  replace s2 := kt kk s2
  replace s4 := kt kk s4
  replace s5 := kt kk s5
  clear kk hz s18
  have hz := zz
  have s14 := s14x
  clear zz s14x A3_4
  refine wpList_nil ?_
  go_upto_region 5 with fail
  cases e3 : decide (((sI mxI l (0, 0)).1 : Int) = 0)
  rotate_left
  · refine wp_cond_true ((ev s14 rfl).trans (congrArg Value.bool e3)) ?_
    have hE : ¬ (sI mxI l (0, 0)).2 = 0 := (first_at l).1 (by have := of_decide_eq_true e3; omega)
    have V : rdM l = (⟨zG, [], [], (0, 0)⟩, (sI mxI l (0, 0)).2) := by unfold rdM; rw [if_pos hE]
    clear s14 e3
    go_upto_region 4 with fail
    refine wp_region_lit ?_
    refine vt (zG.val nilS nilS) (ex_build rfl (bdM0 _)) hz (fun A4_1 zz kk s19x => ?_)
    replace s2 := kt kk s2
    replace s4 := kt kk s4
    clear kk hz s5
    have hz := zz
    have s19 := s19x
    clear zz s19x
    refine vt (.pointer (some ⟨qr, 0, none⟩)) (ex_fa rfl (ev s4 rfl) (by go_simp)) hz (fun A4_2 zz kk s20x => ?_)
    replace s2 := kt kk s2
    replace s19 := kt kk s19
    clear kk hz s4
    have hz := zz
    have s20 := s20x
    clear zz s20x A4_1
    refine vt (.pointer (some ⟨b, 0, none⟩)) (ex_ld rfl (ev s20 rfl) (ldRp (BR7.cell 0 _ rfl))) hz (fun A4_3 zz kk s21x => ?_)
    replace s2 := kt kk s2
    replace s19 := kt kk s19
    clear kk hz s20
    have hz := zz
    have s21 := s21x
    clear zz s21x A4_2
    refine vcallP (want_none rfl) (ex_call rfl (by simp only [List.map_toArray, List.map_cons, List.map_nil, (ev s21 rfl), evc] <;> rfl) rfl) (rd_End w2.heap.size b l (sI mxI l (0, 0)) w7 hR7) rfl hz (by decide) ?_
    rintro e w8 ⟨rfl, hb8⟩
    refine ⟨_, rfl, fun A4_4 zz kk s22x => ?_⟩
    have M8 := M7.bel hb8
    replace s2 := kt kk s2
    replace s19 := kt kk s19
    clear kk hz s21
    have hz := zz
    have s22 := s22x
    clear zz s22x A4_3
    refine vs (sets w8 w.heap.size 0 (zG.cs nilS nilS)) (want_none rfl) (ex_st rfl (ev s2 rfl) (ev s19 rfl) (stM M8 zG nilS nilS rfl rfl)) rfl ?_
    have SP9 := M8.putU zG nilS nilS
    obtain ⟨w9, hw9⟩ : ∃ y, y = sets w8 w.heap.size 0 (zG.cs nilS nilS) := ⟨_, rfl⟩
    rw [← hw9] at SP9 ⊢
    clear hw9
    refine vt _ (ex_assign rfl (ev s22 rfl)) hz (fun A4_5 zz kk s3x => ?_)
    replace s2 := kt kk s2
    clear kk hz s19 s22
    have hz := zz
    have s3 := s3x
    clear zz s3x A4_4
    refine wpList_nil ?_
    have hfin : Below w.heap.size w w9 := (hB7.trans (hb8.mono (by omega))).trans (SP9.2.below (by have := hb8.size; omega) (by omega))
    go_wp2
    refine bodyPost_msg rfl s2 s3 SP9.1 ?_
    rw [V]
    exact ⟨_, _, by show _ = Ending.returned (.tuple #[zG.val nilS nilS, .int .i64 (sI mxI l (0, 0)).2]); rw [Wi.endErr, if_neg hE], OwnY.nil _ _ _, OwnY.nil _ _ _, hfin⟩
  refine wp_cond_false ((ev s14 rfl).trans (congrArg Value.bool e3)) ?_
  have hE : (sI mxI l (0, 0)).2 = 0 := by have h1 := (first_at l).2; have h2 := of_decide_eq_false e3; exact Classical.byContradiction (fun hn => h2 (by rw [h1 hn]; rfl))
  clear s14 e3
  go_upto_region 5 with fail
  refine wp_region_lit ?_
  refine vt (.pointer (some ⟨qm, 0, none⟩)) (ex_fa rfl (ev s5 rfl) (MBox.faKind _ _)) hz (fun A5_1 zz kk s24x => ?_)
  replace s2 := kt kk s2
  replace s4 := kt kk s4
  replace s5 := kt kk s5
  clear kk hz
  have hz := zz
  have s24 := s24x
  clear zz s24x
  refine vt (.int .i64 ((rI mxI l (0, 0)) : Int)) (ex_ld rfl (ev s24 rfl) (MM7.ldKind)) hz (fun A5_2 zz kk s25x => ?_)
  replace s2 := kt kk s2
  replace s4 := kt kk s4
  replace s5 := kt kk s5
  clear kk hz s24
  have hz := zz
  have s25 := s25x
  clear zz s25x A5_1
  refine vcallP (want_none rfl) (ex_call rfl (by simp only [List.map_toArray, List.map_cons, List.map_nil, (ev s25 rfl), evc] <;> rfl) rfl) (isKind_any ((rI mxI l (0, 0)) : Int) w7) rfl hz (by decide) ?_
  rintro e w7_ ⟨rfl, hw77⟩; rw [hw77]; clear hw77 w7_
  refine ⟨_, rfl, fun A5_3 zz kk s26x => ?_⟩
  replace s2 := kt kk s2
  replace s4 := kt kk s4
  replace s5 := kt kk s5
  clear kk hz s25
  have hz := zz
  have s26 := s26x
  clear zz s26x A5_2
  refine vt (.bool (!(kdB ((rI mxI l (0, 0)) : Int)))) (ex_not rfl (ev s26 rfl)) hz (fun A5_4 zz kk s27x => ?_)
  replace s2 := kt kk s2
  replace s4 := kt kk s4
  replace s5 := kt kk s5
  clear kk hz s26
  have hz := zz
  have s27 := s27x
  clear zz s27x A5_3
  refine vt _ (ex_assign rfl (ev s27 rfl)) hz (fun A5_5 zz kk s23x => ?_)
  replace s2 := kt kk s2
  replace s4 := kt kk s4
  replace s5 := kt kk s5
  clear kk hz s27
  have hz := zz
  have s23 := s23x
  clear zz s23x A5_4
  refine wpList_nil ?_
  go_upto_region 7 with fail
  cases e5 : !kdB ((rI mxI l (0, 0)) : Int)
  rotate_left
  · refine wp_cond_true ((ev s23 rfl).trans (congrArg Value.bool e5)) ?_
    have hK : kdB ((rI mxI l (0, 0)) : Int) = false := by simpa using e5
    have V : rdM l = (⟨zG, [], [], (0, 0)⟩, 70) := by unfold rdM; rw [if_neg (by simp [hE]), if_pos hK]
    clear s23 e5
    go_upto_region 6 with fail
    refine wp_region_lit ?_
    refine vt (zG.val nilS nilS) (ex_build rfl (bdM0 _)) hz (fun A6_1 zz kk s28x => ?_)
    replace s2 := kt kk s2
    clear kk hz s4 s5
    have hz := zz
    have s28 := s28x
    clear zz s28x
    refine vs (sets w7 w.heap.size 0 (zG.cs nilS nilS)) (want_none rfl) (ex_st rfl (ev s2 rfl) (ev s28 rfl) (stM M7 zG nilS nilS rfl rfl)) rfl ?_
    have SP9 := M7.putU zG nilS nilS
    obtain ⟨w9, hw9⟩ : ∃ y, y = sets w7 w.heap.size 0 (zG.cs nilS nilS) := ⟨_, rfl⟩
    rw [← hw9] at SP9 ⊢
    clear hw9
    refine vt (.int .i64 70) (ex_assign rfl rfl) hz (fun A6_2 zz kk s3x => ?_)
    replace s2 := kt kk s2
    clear kk hz s28
    have hz := zz
    have s3 := s3x
    clear zz s3x A6_1
    refine wpList_nil ?_
    have hfin : Below w.heap.size w w9 := hB7.trans (SP9.2.below (by omega) (by omega))
    go_wp2
    refine bodyPost_msg rfl s2 s3 SP9.1 ?_
    rw [V]
    exact ⟨_, _, rfl, OwnY.nil _ _ _, OwnY.nil _ _ _, hfin⟩
  refine wp_cond_false ((ev s23 rfl).trans (congrArg Value.bool e5)) ?_
  have hK : kdB ((rI mxI l (0, 0)) : Int) = true := by simpa using e5
  clear s23 e5
  obtain ⟨k, hk⟩ : ∃ k, k = (rI mxI l (0, 0)) := ⟨_, rfl⟩
  have hk2 : k < 15 := by have := inR_iff.1 hK; omega
  obtain ⟨x0, hx0⟩ : ∃ x0 : Rst, x0 = ⟨({ zG with k := ((rI mxI l (0, 0)) : Int) } : Mg), [], [], (sI mxI l (0, 0))⟩ := ⟨_, rfl⟩
  have V : rdM l = (rCols l k x0 10, Wi.endErr l.length (rCols l k x0 10).s.1 (rCols l k x0 10).s.2) := by unfold rdM; rw [if_neg (by simp [hE]), if_neg (by simp [hK]), hx0, hk]
  have TB7 := hT.later hB7 hT.lt
  have MS7 : MS w7 qm x0.m x0.L x0.D := by rw [hx0]; exact ⟨_, _, MM7, OwnY.nil _ _ _, OwnY.nil _ _ _⟩
  have hR7x : RD w2.heap.size w7 b l x0.s := by rw [hx0]; exact hR7
  go_upto_region 7 with fail
  refine wp_region_lit ?_
  refine vt (.pointer (some ⟨qm, 0, none⟩)) (ex_fa rfl (ev s5 rfl) (MBox.faKind _ _)) hz (fun A7_1 zz kk s29x => ?_)
  replace s2 := kt kk s2
  replace s4 := kt kk s4
  replace s5 := kt kk s5
  clear kk hz
  have hz := zz
  have s29 := s29x
  clear zz s29x
  refine vt (.int .i64 (k : Int)) (ex_ld rfl (ev s29 rfl) (MM7.ldKind.trans (by rw [hk]))) hz (fun A7_2 zz kk s30x => ?_)
  replace s2 := kt kk s2
  replace s4 := kt kk s4
  replace s5 := kt kk s5
  clear kk hz s29
  have hz := zz
  have s30 := s30x
  clear zz s30x A7_1
  refine vt (.pointer (some ⟨0, k * 10, none⟩)) (ex_ix rfl rfl (ev s30 rfl) (ixTab k hk2 _)) hz (fun A7_3 zz kk s31x => ?_)
  replace s2 := kt kk s2
  replace s4 := kt kk s4
  replace s5 := kt kk s5
  clear kk hz s30
  have hz := zz
  have s31 := s31x
  clear zz s31x A7_2
  refine vt (.agg #[.int .u8 (tabA k 0 : Int), .int .u8 (tabA k 1 : Int), .int .u8 (tabA k 2 : Int), .int .u8 (tabA k 3 : Int), .int .u8 (tabA k 4 : Int), .int .u8 (tabA k 5 : Int), .int .u8 (tabA k 6 : Int), .int .u8 (tabA k 7 : Int), .int .u8 (tabA k 8 : Int), .int .u8 (tabA k 9 : Int)]) (ex_ld rfl (ev s31 rfl) (ldRow TB7 hk2)) hz (fun A7_4 zz kk s32x => ?_)
  replace s2 := kt kk s2
  replace s4 := kt kk s4
  replace s5 := kt kk s5
  clear kk hz s31
  have hz := zz
  have s32 := s32x
  clear zz s32x A7_3
  refine vt (.int .i64 0) (ex_move rfl rfl) hz (fun A7_5 zz kk s33x => ?_)
  replace s2 := kt kk s2
  replace s4 := kt kk s4
  replace s5 := kt kk s5
  replace s32 := kt kk s32
  clear kk hz
  have hz := zz
  have s33 := s33x
  clear zz s33x A7_4
  refine wpList_nil ?_
  go_upto_region 8 with fail
  refine v_loop 33 10 (fun j T wr => T.size = 48 ∧ T[2]? = some (gw true (.pointer (some ⟨w.heap.size, 0, none⟩))) ∧ T[4]? = some (gw true (.pointer (some ⟨qr, 0, none⟩))) ∧ T[5]? = some (gw true (.pointer (some ⟨qm, 0, none⟩))) ∧ T[32]? = some (gw true (.agg #[.int .u8 (tabA k 0 : Int), .int .u8 (tabA k 1 : Int), .int .u8 (tabA k 2 : Int), .int .u8 (tabA k 3 : Int), .int .u8 (tabA k 4 : Int), .int .u8 (tabA k 5 : Int), .int .u8 (tabA k 6 : Int), .int .u8 (tabA k 7 : Int), .int .u8 (tabA k 8 : Int), .int .u8 (tabA k 9 : Int)])) ∧ T[33]? = some (gw true (.int .i64 (j : Int))) ∧ Hid (MS wr qm (rCols l k x0 j).m (rCols l k x0 j).L (rCols l k x0 j).D ∧ RD w2.heap.size wr b l (rCols l k x0 j).s ∧ U2 b qm w7 wr)) (fun j T w h => h.2.2.2.2.2.1) ⟨hz, s2, s4, s5, s32, s33, MS7, hR7x, U2.refl _ _ _⟩ ?_
  clear hz s2 s4 s5 s32 s33
  intro j R0 wr hj hh
  obtain ⟨hz, s2, s4, s5, s32, s33, HI⟩ := hh
  have hsr := HI.out.2.2.size
  have BRr := BR7.ub2 HI.out.2.2 (by omega) (by omega)
  go_upto_region 8 with fail
  refine wp_region_lit ?_
  refine vt (.bool (decide ((j : Int) < 10))) (ex_bin rfl (ev s33 rfl) rfl (lssC _ _ _ _ _)) hz (fun A8_1 zz kk s34x => ?_)
  replace s2 := kt kk s2
  replace s4 := kt kk s4
  replace s5 := kt kk s5
  replace s32 := kt kk s32
  replace s33 := kt kk s33
  clear kk hz
  have hz := zz
  have s34 := s34x
  clear zz s34x
  refine wpList_nil ?_
  go_upto_region 9 with fail
  cases e8 : decide ((j : Int) < 10)
  rotate_left
  · refine wp_cond_true ((ev s34 rfl).trans (congrArg Value.bool e8)) ?_
    have hlt : j < 10 := by have := of_decide_eq_true e8; omega
    clear s34 e8
    go_upto_region 9 with fail
    refine wp_region_lit ?_
    refine vt _ (ex_move rfl (ev s33 rfl)) hz (fun A9_1 zz kk s35x => ?_)
    replace s2 := kt kk s2
    replace s4 := kt kk s4
    replace s5 := kt kk s5
    replace s32 := kt kk s32
    replace s33 := kt kk s33
    clear kk hz
    have hz := zz
    have s35 := s35x
    clear zz s35x
    refine vt (.int .u8 (tabA k j : Int)) (ex_index rfl (ev s32 rfl) (ev s33 rfl) (rowIx k j hlt _)) hz (fun A9_2 zz kk s36x => ?_)
    replace s2 := kt kk s2
    replace s4 := kt kk s4
    replace s5 := kt kk s5
    replace s32 := kt kk s32
    replace s33 := kt kk s33
    replace s35 := kt kk s35
    clear kk hz
    have hz := zz
    have s36 := s36x
    clear zz s36x A9_1
    refine vt _ (ex_assign rfl (ev s35 rfl)) hz (fun A9_3 zz kk s6x => ?_)
    replace s2 := kt kk s2
    replace s4 := kt kk s4
    replace s5 := kt kk s5
    replace s32 := kt kk s32
    replace s33 := kt kk s33
    replace s36 := kt kk s36
    clear kk hz s35
    have hz := zz
    have s6 := s6x
    clear zz s6x A9_2
    refine vt _ (ex_assign rfl (ev s36 rfl)) hz (fun A9_4 zz kk s7x => ?_)
    replace s2 := kt kk s2
    replace s4 := kt kk s4
    replace s5 := kt kk s5
    replace s6 := kt kk s6
    replace s32 := kt kk s32
    replace s33 := kt kk s33
    clear kk hz s36
    have hz := zz
    have s7 := s7x
    clear zz s7x A9_3
    refine wpList_nil ?_
    go_upto_region 10 with fail
    refine wp_region_lit ?_
    refine vt _ (ex_move rfl (ev s7 rfl)) hz (fun A10_1 zz kk s37x => ?_)
    replace s2 := kt kk s2
    replace s4 := kt kk s4
    replace s5 := kt kk s5
    replace s6 := kt kk s6
    replace s7 := kt kk s7
    replace s32 := kt kk s32
    replace s33 := kt kk s33
    clear kk hz
    have hz := zz
    have s37 := s37x
    clear zz s37x
    refine vt (.bool (!decide ((tabA k j : Int) = 0))) (ex_bin rfl (ev s37 rfl) rfl (neqU8 _ _ _ _ _)) hz (fun A10_2 zz kk s38x => ?_)
    replace s2 := kt kk s2
    replace s4 := kt kk s4
    replace s5 := kt kk s5
    replace s6 := kt kk s6
    replace s7 := kt kk s7
    replace s32 := kt kk s32
    replace s33 := kt kk s33
    clear kk hz s37
    have hz := zz
    have s38 := s38x
    clear zz s38x A10_1
    refine wpList_nil ?_
    go_upto_region 11 with fail
    refine v_cond (fun T wr => T.size = 48 ∧ T[2]? = some (gw true (.pointer (some ⟨w.heap.size, 0, none⟩))) ∧ T[4]? = some (gw true (.pointer (some ⟨qr, 0, none⟩))) ∧ T[5]? = some (gw true (.pointer (some ⟨qm, 0, none⟩))) ∧ T[32]? = some (gw true (.agg #[.int .u8 (tabA k 0 : Int), .int .u8 (tabA k 1 : Int), .int .u8 (tabA k 2 : Int), .int .u8 (tabA k 3 : Int), .int .u8 (tabA k 4 : Int), .int .u8 (tabA k 5 : Int), .int .u8 (tabA k 6 : Int), .int .u8 (tabA k 7 : Int), .int .u8 (tabA k 8 : Int), .int .u8 (tabA k 9 : Int)])) ∧ T[33]? = some (gw true (.int .i64 (j : Int))) ∧ Hid (MS wr qm (rCols l k x0 (j + 1)).m (rCols l k x0 (j + 1)).L (rCols l k x0 (j + 1)).D ∧ RD w2.heap.size wr b l (rCols l k x0 (j + 1)).s ∧ U2 b qm w7 wr)) s38 (fun hu => ?_) (fun hu => ⟨hz, s2, s4, s5, s32, s33, by rw [rCols_none (show tabA k j = 0 by have h0 : ((tabA k j : Nat) : Int) = 0 := (by simpa using hu); omega)]; exact HI.out⟩) ?_
    · clear s38
      go_upto_region 11 with fail
      refine wp_region_lit ?_
      refine vt (.agg #[.pointer (some ⟨b, 0, none⟩)]) (ex_ld rfl (ev s4 rfl) (ldRd (BRr.cell 0 _ rfl))) hz (fun A11_1 zz kk s39x => ?_)
      replace s2 := kt kk s2
      replace s4 := kt kk s4
      replace s5 := kt kk s5
      replace s6 := kt kk s6
      replace s7 := kt kk s7
      replace s32 := kt kk s32
      replace s33 := kt kk s33
      clear kk hz
      have hz := zz
      have s39 := s39x
      clear zz s39x
      refine vt _ (ex_move rfl (ev s6 rfl)) hz (fun A11_2 zz kk s40x => ?_)
      replace s2 := kt kk s2
      replace s4 := kt kk s4
      replace s5 := kt kk s5
      replace s7 := kt kk s7
      replace s32 := kt kk s32
      replace s33 := kt kk s33
      replace s39 := kt kk s39
      clear kk hz s6
      have hz := zz
      have s40 := s40x
      clear zz s40x A11_1
      refine vt _ (ex_move rfl (ev s7 rfl)) hz (fun A11_3 zz kk s41x => ?_)
      replace s2 := kt kk s2
      replace s4 := kt kk s4
      replace s5 := kt kk s5
      replace s32 := kt kk s32
      replace s33 := kt kk s33
      replace s39 := kt kk s39
      replace s40 := kt kk s40
      clear kk hz s7
      have hz := zz
      have s41 := s41x
      clear zz s41x A11_2
      refine vcallP (want_none rfl) (ex_call rfl (by simp only [List.map_toArray, List.map_cons, List.map_nil, (ev s39 rfl), (ev s5 rfl), (ev s40 rfl), (ev s41 rfl), evc] <;> rfl) rfl) (rfield_all w2.heap.size b qm l (rCols l k x0 j) j hlt (tabA k j : Int) wr (by omega) HI.out.1 HI.out.2.1) rfl hz (by decide) ?_
      rintro e w8 ⟨rfl, hM8, hR8, hu8⟩
      refine ⟨_, rfl, fun A11_4 zz kk s42x => ?_⟩
      replace s2 := kt kk s2
      replace s4 := kt kk s4
      replace s5 := kt kk s5
      replace s32 := kt kk s32
      replace s33 := kt kk s33
      clear kk hz s39 s40 s41
      have hz := zz
      have s42 := s42x
      clear zz s42x A11_3
      refine wpList_nil ?_
      exact ⟨_, rfl, hz, s2, s4, s5, s32, s33, by rw [rCols_some (show ¬ tabA k j = 0 by intro h0; rw [h0] at hu; simp at hu)]; exact ⟨hM8, hR8, HI.out.2.2.trans hu8⟩⟩
    · clear hz s2 s4 s5 s32 s33 s38 HI BRr hsr
      intro T8 w8 hJ
      obtain ⟨hz, s2, s4, s5, s32, s33, HI⟩ := hJ
      go_upto_region 12 with fail
      refine wp_region_lit ?_
      refine vt (.int .i64 ((j + 1 : Nat) : Int)) (ex_bin rfl (ev s33 rfl) rfl (addJ j (by omega) _ _ _)) hz (fun A12_1 zz kk s43x => ?_)
      replace s2 := kt kk s2
      replace s4 := kt kk s4
      replace s5 := kt kk s5
      replace s32 := kt kk s32
      replace s33 := kt kk s33
      clear kk hz
      have hz := zz
      have s43 := s43x
      clear zz s43x
      refine vt _ (ex_move rfl (ev s43 rfl)) hz (fun A12_2 zz kk s33x => ?_)
      replace s2 := kt kk s2
      replace s4 := kt kk s4
      replace s5 := kt kk s5
      replace s32 := kt kk s32
      clear kk hz s43 s33
      have hz := zz
      have s33 := s33x
      clear zz s33x A12_1
      refine wpList_nil ?_
      exact ⟨_, rfl, by omega, hz, s2, s4, s5, s32, s33, HI.out⟩
  refine wp_cond_false ((ev s34 rfl).trans (congrArg Value.bool e8)) ?_
  have hj10 : j = 10 := by have := of_decide_eq_false e8; omega
  subst hj10
  clear s34 e8 s32 s33 hj
  obtain ⟨vs_, vt_, MMr, OLr, ODr⟩ := HI.out.1
  have M0r := M7.upd HI.out.2.2 (by omega)
  obtain ⟨av, cv, rfl, _⟩ := OLr.form
  obtain ⟨at_, ct, rfl, _⟩ := ODr.form
  go_upto_region 13 with fail
  refine vh_start (fun v => U2 b w.heap.size wr v) (by kernel_rfl) ?_
  have hS : U2 b w.heap.size wr wr.drew := U2.b (UB.of_below (Below.refl _ _).drew)
  have hRd := HI.out.2.1.later (Below.refl _ _).drew
  refine vh_take 0 true ((rCols l k x0 10).m.val (.slice av (rCols l k x0 10).L.length cv) (.slice at_ (rCols l k x0 10).D.length ct)) rfl (by kernel_rfl) (by kernel_rfl) (by kernel_rfl) (want_none rfl) (fun hc v hv => ex_ld rfl (ev s5 rfl) ((MMr.upd hv (by omega)).ldAll)) rfl hz (by decide) hS (fun A13_1 zz kk s44x => ?_)
  replace s2 := kt kk s2
  replace s4 := kt kk s4
  clear kk hz s5
  have hz := zz
  have s44 := s44x
  clear zz s44x
  refine vh_take 1 true (.pointer (some ⟨qr, 0, none⟩)) rfl (by kernel_rfl) (by kernel_rfl) (by kernel_rfl) (want_none rfl) (fun hc v hv => ex_fa rfl (ev s4 rfl) (by go_simp)) rfl hz (by decide) hS (fun A13_2 zz kk s45x => ?_)
  replace s2 := kt kk s2
  replace s44 := kt kk s44
  clear kk hz s4
  have hz := zz
  have s45 := s45x
  clear zz s45x A13_1
  refine vh_take 2 true (.pointer (some ⟨b, 0, none⟩)) rfl (by kernel_rfl) (by kernel_rfl) (by kernel_rfl) (want_none rfl) (fun hc v hv => ex_ld rfl (ev s45 rfl) (ldRp ((BRr.ub2 hv (by omega) (by omega)).cell 0 _ rfl))) rfl hz (by decide) hS (fun A13_3 zz kk s46x => ?_)
  replace s2 := kt kk s2
  replace s44 := kt kk s44
  clear kk hz s45
  have hz := zz
  have s46 := s46x
  clear zz s46x A13_2
  refine vh_call 3 rfl (by kernel_rfl) (want_none rfl) (ex_call rfl (by simp only [List.map_toArray, List.map_cons, List.map_nil, (ev s46 rfl), evc] <;> rfl) rfl) (rd_End w2.heap.size b l (rCols l k x0 10).s wr.drew hRd) rfl hz (by decide) ?_
  rintro e w8 ⟨rfl, hb8⟩
  refine ⟨_, rfl, (hS.trans (U2.b (UB.of_below hb8))), fun A13_4 zz kk s47x => ?_⟩
  have hb8r : Below wr.heap.size wr w8 := (Below.refl _ _).drew.trans hb8
  have hS8 : U2 b w.heap.size wr w8 := U2.b (UB.of_below hb8r)
  have M8 := M0r.bel hb8r
  have hs8 := hb8r.size
  replace s2 := kt kk s2
  replace s44 := kt kk s44
  clear kk hz s46
  have hz := zz
  have s47 := s47x
  clear zz s47x A13_3
  refine vh_store 4 (sets w8 w.heap.size 0 ((rCols l k x0 10).m.cs (.slice av (rCols l k x0 10).L.length cv) (.slice at_ (rCols l k x0 10).D.length ct))) rfl (by kernel_rfl) (want_none rfl) (ex_st rfl (ev s2 rfl) (ev s44 rfl) (stM M8 (rCols l k x0 10).m (.slice av (rCols l k x0 10).L.length cv) (.slice at_ (rCols l k x0 10).D.length ct) rfl rfl)) rfl (hS8.trans (U2.q (M8.putU (rCols l k x0 10).m (.slice av (rCols l k x0 10).L.length cv) (.slice at_ (rCols l k x0 10).D.length ct)).2)) ?_
  have SP9 := M8.putU (rCols l k x0 10).m (.slice av (rCols l k x0 10).L.length cv) (.slice at_ (rCols l k x0 10).D.length ct)
  obtain ⟨w9, hw9⟩ : ∃ y, y = sets w8 w.heap.size 0 ((rCols l k x0 10).m.cs (.slice av (rCols l k x0 10).L.length cv) (.slice at_ (rCols l k x0 10).D.length ct)) := ⟨_, rfl⟩
  rw [← hw9] at SP9 ⊢
  clear hw9
  have hS9 : U2 b w.heap.size wr w9 := hS8.trans (U2.q SP9.2)
  refine vh_take 5 true (.int .i64 (Wi.endErr l.length (rCols l k x0 10).s.1 (rCols l k x0 10).s.2)) rfl (by kernel_rfl) (by kernel_rfl) (by kernel_rfl) (want_none rfl) (fun hc v hv => ex_assign rfl (ev s47 rfl)) rfl hz (by decide) hS9 (fun A13_5 zz kk s3x => ?_)
  replace s2 := kt kk s2
  clear kk hz s44 s47
  have hz := zz
  have s3 := s3x
  clear zz s3x A13_4
  refine vh_done (by kernel_rfl) ?_
  have hsr2 := HI.out.2.2.size
  have hfin : Below w.heap.size w w9 := hB7.trans ((Upd.below HI.out.2.2 (by omega) (fun k hk => by omega)).trans ((hb8r.mono (by omega)).trans (SP9.2.below (by omega) (by omega))))
  have OL9 := ((OLr.later8 hb8r).far SP9.2 (fun k hk => by omega)).low (show w.heap.size ≤ qm + 1 by omega)
  have OD9 := ((ODr.later8 hb8r).far SP9.2 (fun k hk => by omega)).low (show w.heap.size ≤ qm + 1 by omega)
  go_wp2
  refine bodyPost_msg rfl s2 s3 SP9.1 ?_
  rw [V]
  exact ⟨_, _, rfl, OL9, OD9, hfin⟩
def dcM (c : Cf) (f : List Int) : Rst × Int :=
  if cfB c = false then (⟨zG, [], [], (0, 0)⟩, 1)
  else if ¬ Wi.opErr f = 0 then (⟨zG, [], [], (0, 0)⟩, Wi.opErr f)
  else if ¬ (rdM (Wi.opBody f)).2 = 0 then (⟨zG, [], [], (0, 0)⟩, (rdM (Wi.opBody f)).2)
  else if ¬ ckM c (rdM (Wi.opBody f)).1.m (rdM (Wi.opBody f)).1.L (rdM (Wi.opBody f)).1.D = 0 then (⟨zG, [], [], (0, 0)⟩, ckM c (rdM (Wi.opBody f)).1.m (rdM (Wi.opBody f)).1.L (rdM (Wi.opBody f)).1.D)
  else ((rdM (Wi.opBody f)).1, 0)
theorem op_byte {f : List Int} (h : ∀ z ∈ f, 0 ≤ z ∧ z < 256) : ∀ z ∈ Wi.opBody f, 0 ≤ z ∧ z < 256 := by
  intro z hz
  unfold Wi.opBody at hz
  split at hz
  · exact h z (List.mem_of_mem_drop (List.mem_of_mem_take hz))
  · cases hz
theorem op_len (f : List Int) : (Wi.opBody f).length ≤ f.length := by
  unfold Wi.opBody
  split
  · simp; omega
  · simp
theorem rI_wf (l : List Int) (s : Nat × Int) : (Lit.int .i64 (rI mxI l s : Int)).wf = true := by
  have h : rI ((9223372036854775807 : Nat) : Int) l s ≤ 9223372036854775807 := rI_le 9223372036854775807 (Nat.le_refl _) l s
  have h2 : rI mxI l s ≤ 9223372036854775807 := h
  exact wf_i64 (by omega)
theorem fits_none : (⟨0, 0, ⟨#[]⟩⟩ : Opn).fits := ⟨by dsimp only; decide, by dsimp only; decide, by dsimp only; unfold maxLen; decide⟩
theorem str_sz (l : List Int) : (strOfNums l).size = l.length := by
  show (strOfNums l).data.size = _
  simp [strOfNums]
theorem rT_le (l : List Int) (s : Nat × Int) : (rT l s).size ≤ 64 := by
  unfold rT
  rw [str_sz]
  unfold Wi.selL
  split
  · unfold Wi.ttList
    split
    · have h : Wi.tcVal (64 : Nat) (l.drop s.1) ≤ 64 := by
        have := rI_le 64 (by decide) (l.drop s.1) (0, 0)
        unfold rI at this
        rw [Wi.sel_ok] at this
        simpa using this
      rw [List.length_take]
      exact Nat.le_trans (Nat.min_le_left _ _) h
    · simp
  · simp
theorem rO_fits (l : List Int) (s : Nat × Int) : (rO l s).fits := ⟨rI_wf _ _, rI_wf _ _, Nat.le_trans (rT_le _ _) (by unfold maxLen; omega)⟩
theorem rE_fits (l : List Int) (s : Nat × Int) : (rE l s).fits := ⟨rI_wf _ _, rI_wf _ _, rO_fits _ _⟩
theorem rCol_fits (l : List Int) (x : Rst) (j : Nat) (op : Bool) (h : (∀ e ∈ x.L, e.fits) ∧ x.m.e.fits) : (∀ e ∈ (rCol l x j op).L, e.fits) ∧ (rCol l x j op).m.e.fits := by
  unfold rCol
  split
  case h_7 =>
    split
    · exact ⟨h.1, rE_fits _ _⟩
    · exact ⟨h.1, rI_wf _ _, rI_wf _ _, fits_none⟩
  case h_9 =>
    refine ⟨fun e he => ?_, h.2⟩
    simp only [esL, List.mem_map] at he
    obtain ⟨i, _, rfl⟩ := he
    exact rE_fits _ _
  all_goals exact h
theorem rCols_fits (l : List Int) (k : Nat) (x : Rst) (h : (∀ e ∈ x.L, e.fits) ∧ x.m.e.fits) : ∀ j, (∀ e ∈ (rCols l k x j).L, e.fits) ∧ (rCols l k x j).m.e.fits
  | 0 => h
  | j + 1 => by
    unfold rCols
    split
    · exact rCols_fits l k x h j
    · exact rCol_fits _ _ _ _ (rCols_fits l k x h j)
theorem zG_fits : zG.e.fits := ⟨by decide, by decide, by decide, by decide, by unfold maxLen; decide⟩
theorem rdM_fits (l : List Int) : (∀ e ∈ (rdM l).1.L, e.fits) ∧ (rdM l).1.m.e.fits := by
  unfold rdM
  split
  · exact ⟨(fun e he => by cases he), zG_fits⟩
  · split
    · exact ⟨(fun e he => by cases he), zG_fits⟩
    · exact rCols_fits _ _ _ ⟨(fun e he => by cases he), zG_fits⟩ 10
theorem rdM_L (l : List Int) : ∀ e ∈ (rdM l).1.L, e.fits := (rdM_fits l).1
theorem rdM_e (l : List Int) : (rdM l).1.m.e.fits := (rdM_fits l).2
theorem OwnY.far6 {α : Type} {Y : Lay α} {B q : Nat} {w w1 w2 : World} {v : Value} {l : List α} (h : OwnY Y B w1 v l) (h0 : OwnY Y B w v l) (u : UB q w1 w2) (hq : q = w.heap.size) : OwnY Y B w2 v l :=
  h.upd1 u (fun g hg he => by have := (World.ownsRow.lt h0 g hg).2; omega)
theorem ex_box {o : Oper} {ρ : Operand → Value} {s : TypeId} {x : Operand} {X V : Value} {w w' : World} (ho : o.op = .box s x) (hx : ρ x = X) (hr : (Instr.box s X).run Tryd.prog w = .ok V w') : (execOp ρ o).run Tryd.prog w = .ok (.value V) w' := by
  unfold execOp
  simp only [ho, hx, Sem.run_bind, hr, Result.andThen_ok]
  rfl
theorem bxCf (f r p : Int) (u : Bool) (w : World) : (Instr.box 23 (.agg #[.int .i64 f, .int .i64 r, .int .i64 p, .bool u])).run Tryd.prog w = .ok (.pointer (some ⟨w.heap.size, 0, none⟩)) (w.alloc (.cells #[.int .i64 f, .int .i64 r, .int .i64 p, .bool u] 23)) := by
  go_simp
  first | done | rfl
set_option maxRecDepth 100000 in
set_option maxHeartbeats 8000000 in
theorem decode_any (c : Cf) (a : Option Addr) (n c_ : Nat) (f : List Int) (w : World) (hH : Wi.Hs w a n c_ f) (hm : n ≤ 140737488355328) (hT : Tab w) :
    Calls Tryd.prog 10 #[c.val, .slice a n c_] w fun e w' => ∃ s t, e = .returned (.tuple #[(dcM c f).1.m.val s t, .int .i64 (dcM c f).2]) ∧ OwnY yE w.heap.size w' s (dcM c f).1.L ∧ OwnY yD w.heap.size w' t (dcM c f).1.D ∧ Below w.heap.size w w' := by
  go_enter Tryd.func10, Tryd.ntmps10
  go_upto_region 0 with fail
  refine wp_region_lit ?_
  refine vl_gen (fun T => T.size = 40 ∧ T[0]? = some (gw true (.agg #[.int .i64 c.f, .int .i64 c.r, .int .i64 c.p, .bool c.u])) ∧ T[1]? = some (gw true (.slice a n c_))) ⟨rfl, rfl, rfl⟩ (fun Z0 ⟨hz, s0, s1⟩ => ?_)
  obtain ⟨w0, hw0⟩ : ∃ w0, w0 = w.alloc (.cells #[.int .i64 c.f, .int .i64 c.r, .int .i64 c.p, .bool c.u] 23) := ⟨_, rfl⟩
  have hB0 : Below w.heap.size w w0 := by rw [hw0]; exact (Below.refl _ _).alloc (Nat.le_refl _) _
  have hs0 : w0.heap.size = w.heap.size + 1 := by rw [hw0]; simp
  have C0 : CfB w0 w.heap.size c := ⟨by omega, fun i x hx => by rw [hw0]; exact cell_box _ _ _ _ _ (by simpa using hx)⟩
  refine vw (.pointer (some ⟨w.heap.size, 0, none⟩)) w0 (want_none rfl) (ex_box rfl (ev s0 rfl) (by rw [hw0]; exact bxCf _ _ _ _ _)) rfl hz (by decide) (fun Z1 zz kk s2x => ?_)
  replace s1 := kt kk s1
  clear kk hz hw0 s0
  have hz := zz
  have s2 := s2x
  clear zz s2x
  obtain ⟨w1, hw1⟩ : ∃ w1, w1 = w0.alloc (.cells (zG.cs nilS nilS).toArray 38) := ⟨_, rfl⟩
  have hb01 : Below w0.heap.size w0 w1 := by rw [hw1]; exact (Below.refl _ _).alloc (Nat.le_refl _) _
  have hs1 : w1.heap.size = w0.heap.size + 1 := by rw [hw1]; simp
  have M1 : MBox w1 (w.heap.size + 1) zG nilS nilS := by rw [hw1, ← hs0]; exact MBox.new0 w0
  have C1 := C0.bel hb01
  have hB1 := hB0.trans (hb01.mono hB0.size)
  refine vw (.pointer (some ⟨w.heap.size + 1, 0, none⟩)) w1 (want_none rfl) (ex_al rfl (by rw [hw1, ← hs0]; exact alM _)) rfl hz (by decide) (fun Z2 zz kk s4x => ?_)
  replace s1 := kt kk s1
  replace s2 := kt kk s2
  clear kk hz hw1
  have hz := zz
  have s4 := s4x
  clear zz s4x
  refine vt (.int .i64 0) (ex_assign rfl rfl) hz (fun Z3 zz kk s5x => ?_)
  replace s1 := kt kk s1
  replace s2 := kt kk s2
  replace s4 := kt kk s4
  clear kk hz s5x
  have hz := zz
  clear zz
  refine wpList_nil ?_
  go_upto_region 1 with fail
  refine wp_region_lit ?_
  refine vt (.agg #[.int .i64 c.f, .int .i64 c.r, .int .i64 c.p, .bool c.u]) (ex_ld rfl (ev s2 rfl) ((C1).ldAll)) hz (fun A1_1 zz kk s10x => ?_)
  replace s1 := kt kk s1
  replace s2 := kt kk s2
  replace s4 := kt kk s4
  clear kk hz
  have hz := zz
  have s10 := s10x
  clear zz s10x
  refine vcallP (want_none rfl) (ex_call rfl (by simp only [List.map_toArray, List.map_cons, List.map_nil, (ev s10 rfl), evc] <;> rfl) rfl) (configMayBe_any c w1) rfl hz (by decide) ?_
  rintro e w2 ⟨rfl, hb2⟩
  refine ⟨_, rfl, fun A1_2 zz kk s11x => ?_⟩
  have M2 := M1.bel hb2
  have C2 := C1.bel hb2
  have hB2 := hB1.trans (hb2.mono hB1.size)
  replace s1 := kt kk s1
  replace s2 := kt kk s2
  replace s4 := kt kk s4
  clear kk hz s10
  have hz := zz
  have s11 := s11x
  clear zz s11x A1_1
  refine vt (.bool (!(cfB c))) (ex_not rfl (ev s11 rfl)) hz (fun A1_3 zz kk s12x => ?_)
  replace s1 := kt kk s1
  replace s2 := kt kk s2
  replace s4 := kt kk s4
  clear kk hz s11
  have hz := zz
  have s12 := s12x
  clear zz s12x A1_2
  refine wpList_nil ?_
  go_upto_region 3 with fail
  cases e1 : !cfB c
  rotate_left
  · refine wp_cond_true ((ev s12 rfl).trans (congrArg Value.bool e1)) ?_
    have hn : cfB c = false := by simpa using e1
    have VV : dcM c f = (⟨zG, [], [], (0, 0)⟩, 1) := by unfold dcM; rw [if_pos hn]
    clear s1 s2 s12
    go_upto_region 2 with fail
    refine wp_region_lit ?_
    refine vt (zG.val nilS nilS) (ex_build rfl (bdM0 _)) hz (fun A2_1 zz kk s13x => ?_)
    replace s4 := kt kk s4
    clear kk hz
    have hz := zz
    have s13 := s13x
    clear zz s13x
    refine vs (sets w2 (w.heap.size + 1) 0 (zG.cs nilS nilS)) (want_none rfl) (ex_st rfl (ev s4 rfl) (ev s13 rfl) (stM M2 zG nilS nilS rfl rfl)) rfl ?_
    have SP := M2.putU zG nilS nilS
    obtain ⟨we, hwe⟩ : ∃ y, y = sets w2 (w.heap.size + 1) 0 (zG.cs nilS nilS) := ⟨_, rfl⟩
    rw [← hwe] at SP ⊢
    clear hwe
    refine vt (.int .i64 1) (ex_assign rfl rfl) hz (fun A2_2 zz kk s5x => ?_)
    replace s4 := kt kk s4
    clear kk hz s13
    have hz := zz
    have s5 := s5x
    clear zz s5x A2_1
    refine wpList_nil ?_
    have hfin : Below w.heap.size w we := hB2.trans (SP.2.below (by have := (hB2).size; omega) (by omega))
    go_wp2
    refine bodyPost_msg rfl s4 s5 SP.1 ?_
    rw [VV]
    exact ⟨_, _, rfl, OwnY.nil _ _ _, OwnY.nil _ _ _, hfin⟩
  refine wp_cond_false ((ev s12 rfl).trans (congrArg Value.bool e1)) ?_
  have hcf : cfB c = true := by simpa using e1
  clear s12 e1
  go_upto_region 3 with fail
  refine wp_region_lit ?_
  refine vt _ (ex_move rfl (ev s1 rfl)) hz (fun A3_1 zz kk s15x => ?_)
  replace s2 := kt kk s2
  replace s4 := kt kk s4
  clear kk hz s1
  have hz := zz
  have s15 := s15x
  clear zz s15x
  refine vcallP (want_none rfl) (ex_call rfl (by simp only [List.map_toArray, List.map_cons, List.map_nil, (ev s15 rfl), evc] <;> rfl) rfl) (Wi.open_any a n c_ f w2 (hH.later hB2)) rfl hz (by decide) ?_
  rintro e w3 ⟨vo, rfl, Oo, hb3⟩
  refine ⟨_, rfl, fun A3_2 zz kk s16x => ?_⟩
  have M3 := M2.bel hb3
  have C3 := C2.bel hb3
  have hB3 := hB2.trans (hb3.mono hB2.size)
  replace s2 := kt kk s2
  replace s4 := kt kk s4
  clear kk hz s15
  have hz := zz
  have s16 := s16x
  clear zz s16x A3_1
  refine vt _ (ex_move rfl (ev s16 rfl)) hz (fun A3_3 zz kk s14x => ?_)
  replace s2 := kt kk s2
  replace s4 := kt kk s4
  clear kk hz s16
  have hz := zz
  have s14 := s14x
  clear zz s14x A3_2
  refine vt (vo) (ex_ext rfl (ev s14 rfl) rfl) hz (fun A3_4 zz kk s17x => ?_)
  replace s2 := kt kk s2
  replace s4 := kt kk s4
  replace s14 := kt kk s14
  clear kk hz
  have hz := zz
  have s17 := s17x
  clear zz s17x A3_3
  refine vt (.int .i64 (Wi.opErr f)) (ex_ext rfl (ev s14 rfl) rfl) hz (fun A3_5 zz kk s18x => ?_)
  replace s2 := kt kk s2
  replace s4 := kt kk s4
  replace s17 := kt kk s17
  clear kk hz s14
  have hz := zz
  have s18 := s18x
  clear zz s18x A3_4
  refine vt _ (ex_assign rfl (ev s17 rfl)) hz (fun A3_6 zz kk s6x => ?_)
  replace s2 := kt kk s2
  replace s4 := kt kk s4
  replace s18 := kt kk s18
  clear kk hz s17
  have hz := zz
  have s6 := s6x
  clear zz s6x A3_5
  refine vt _ (ex_assign rfl (ev s18 rfl)) hz (fun A3_7 zz kk s7x => ?_)
  replace s2 := kt kk s2
  replace s4 := kt kk s4
  replace s6 := kt kk s6
  clear kk hz s18
  have hz := zz
  have s7 := s7x
  clear zz s7x A3_6
  refine wpList_nil ?_
  go_upto_region 4 with fail
  refine wp_region_lit ?_
  refine vt _ (ex_move rfl (ev s7 rfl)) hz (fun A4_1 zz kk s19x => ?_)
  replace s2 := kt kk s2
  replace s4 := kt kk s4
  replace s6 := kt kk s6
  replace s7 := kt kk s7
  clear kk hz
  have hz := zz
  have s19 := s19x
  clear zz s19x
  refine vt (.bool (!decide ((Wi.opErr f) = 0))) (ex_bin rfl (ev s19 rfl) rfl (neqEr _ _ _ _ _)) hz (fun A4_2 zz kk s20x => ?_)
  replace s2 := kt kk s2
  replace s4 := kt kk s4
  replace s6 := kt kk s6
  replace s7 := kt kk s7
  clear kk hz s19
  have hz := zz
  have s20 := s20x
  clear zz s20x A4_1
  refine wpList_nil ?_
  go_upto_region 6 with fail
  cases e4 : !decide (Wi.opErr f = 0)
  rotate_left
  · refine wp_cond_true ((ev s20 rfl).trans (congrArg Value.bool e4)) ?_
    have hn : ¬ Wi.opErr f = 0 := by simpa using e4
    have VV : dcM c f = (⟨zG, [], [], (0, 0)⟩, Wi.opErr f) := by unfold dcM; rw [if_neg (by simp [hcf]), if_pos hn]
    clear s2 s6 s20
    go_upto_region 5 with fail
    refine wp_region_lit ?_
    refine vt (zG.val nilS nilS) (ex_build rfl (bdM0 _)) hz (fun A5_1 zz kk s21x => ?_)
    replace s4 := kt kk s4
    replace s7 := kt kk s7
    clear kk hz
    have hz := zz
    have s21 := s21x
    clear zz s21x
    refine vt _ (ex_move rfl (ev s7 rfl)) hz (fun A5_2 zz kk s22x => ?_)
    replace s4 := kt kk s4
    replace s21 := kt kk s21
    clear kk hz s7
    have hz := zz
    have s22 := s22x
    clear zz s22x A5_1
    refine vs (sets w3 (w.heap.size + 1) 0 (zG.cs nilS nilS)) (want_none rfl) (ex_st rfl (ev s4 rfl) (ev s21 rfl) (stM M3 zG nilS nilS rfl rfl)) rfl ?_
    have SP := M3.putU zG nilS nilS
    obtain ⟨we, hwe⟩ : ∃ y, y = sets w3 (w.heap.size + 1) 0 (zG.cs nilS nilS) := ⟨_, rfl⟩
    rw [← hwe] at SP ⊢
    clear hwe
    refine vt _ (ex_assign rfl (ev s22 rfl)) hz (fun A5_3 zz kk s5x => ?_)
    replace s4 := kt kk s4
    clear kk hz s21 s22
    have hz := zz
    have s5 := s5x
    clear zz s5x A5_2
    refine wpList_nil ?_
    have hfin : Below w.heap.size w we := hB3.trans (SP.2.below (by have := (hB3).size; omega) (by omega))
    go_wp2
    refine bodyPost_msg rfl s4 s5 SP.1 ?_
    rw [VV]
    exact ⟨_, _, rfl, OwnY.nil _ _ _, OwnY.nil _ _ _, hfin⟩
  refine wp_cond_false ((ev s20 rfl).trans (congrArg Value.bool e4)) ?_
  have hop : Wi.opErr f = 0 := by simpa using e4
  clear s20 e4 s7
  obtain ⟨ao, no, co, rfl, hso, _⟩ := Oo.hs (op_byte hH.byte)
  have hno : no ≤ 140737488355328 := by have h1 := hso.len; have h2 := op_len f; have h3 := hH.len; omega
  go_upto_region 6 with fail
  refine wp_region_lit ?_
  refine vt _ (ex_move rfl (ev s6 rfl)) hz (fun A6_1 zz kk s24x => ?_)
  replace s2 := kt kk s2
  replace s4 := kt kk s4
  clear kk hz s6
  have hz := zz
  have s24 := s24x
  clear zz s24x
  refine vcallP (want_none rfl) (ex_call rfl (by simp only [List.map_toArray, List.map_cons, List.map_nil, (ev s24 rfl), evc] <;> rfl) rfl) (readM_any ao no co (Wi.opBody f) w3 hso hno (hT.later hB3 hT.lt)) rfl hz (by decide) ?_
  rintro e w4 ⟨vs_, vt_, rfl, OL, OD, hb4⟩; obtain ⟨sa, sc, rfl, _⟩ := OL.form; obtain ⟨ta, tc, rfl, _⟩ := OD.form
  refine ⟨_, rfl, fun A6_2 zz kk s25x => ?_⟩
  have M4 := M3.bel hb4
  have C4 := C3.bel hb4
  have hB4 := hB3.trans (hb4.mono hB3.size)
  obtain ⟨qm, hqm⟩ : ∃ qm, qm = w4.heap.size := ⟨_, rfl⟩
  obtain ⟨w5, hw5⟩ : ∃ y, y = w4.alloc (.cells (zG.cs nilS nilS).toArray 38) := ⟨_, rfl⟩
  have hb45 : Below w4.heap.size w4 w5 := by rw [hw5]; exact (Below.refl _ _).alloc (Nat.le_refl _) _
  have hs5 : w5.heap.size = w4.heap.size + 1 := by rw [hw5]; simp
  have MM5 : MBox w5 qm zG nilS nilS := by rw [hw5, hqm]; exact MBox.new0 w4
  have M5 := M4.bel hb45
  have C5 := C4.bel hb45
  have hsz1 := hB1.size
  have hs34 := hb4.size
  have hs23 := hb3.size
  have hs12 := hb2.size
  have hM1lt := M1.lt
  replace s2 := kt kk s2
  replace s4 := kt kk s4
  clear kk hz s24
  have hz := zz
  have s25 := s25x
  clear zz s25x A6_1
  refine vt _ (ex_move rfl (ev s25 rfl)) hz (fun A6_3 zz kk s23x => ?_)
  replace s2 := kt kk s2
  replace s4 := kt kk s4
  clear kk hz s25
  have hz := zz
  have s23 := s23x
  clear zz s23x A6_2
  refine vt ((rdM (Wi.opBody f)).1.m.val (.slice sa (rdM (Wi.opBody f)).1.L.length sc) (.slice ta (rdM (Wi.opBody f)).1.D.length tc)) (ex_ext rfl (ev s23 rfl) rfl) hz (fun A6_4 zz kk s26x => ?_)
  replace s2 := kt kk s2
  replace s4 := kt kk s4
  replace s23 := kt kk s23
  clear kk hz
  have hz := zz
  have s26 := s26x
  clear zz s26x A6_3
  refine vt (.int .i64 (rdM (Wi.opBody f)).2) (ex_ext rfl (ev s23 rfl) rfl) hz (fun A6_5 zz kk s27x => ?_)
  replace s2 := kt kk s2
  replace s4 := kt kk s4
  replace s26 := kt kk s26
  clear kk hz s23
  have hz := zz
  have s27 := s27x
  clear zz s27x A6_4
  refine vw (.pointer (some ⟨qm, 0, none⟩)) w5 (want_none rfl) (ex_al rfl (by rw [hw5, hqm]; exact alM _)) rfl hz (by decide) (fun A6_6 zz kk s8x => ?_)
  replace s2 := kt kk s2
  replace s4 := kt kk s4
  replace s26 := kt kk s26
  replace s27 := kt kk s27
  clear kk hz
  have hz := zz
  have s8 := s8x
  clear zz s8x A6_5
  refine vs (sets w5 qm 0 ((rdM (Wi.opBody f)).1.m.cs (.slice sa (rdM (Wi.opBody f)).1.L.length sc) (.slice ta (rdM (Wi.opBody f)).1.D.length tc))) (want_none rfl) (ex_st rfl (ev s8 rfl) (ev s26 rfl) (stM MM5 (rdM (Wi.opBody f)).1.m (.slice sa (rdM (Wi.opBody f)).1.L.length sc) (.slice ta (rdM (Wi.opBody f)).1.D.length tc) rfl rfl)) rfl ?_
  have SP6 := MM5.putU (rdM (Wi.opBody f)).1.m (.slice sa (rdM (Wi.opBody f)).1.L.length sc) (.slice ta (rdM (Wi.opBody f)).1.D.length tc)
  obtain ⟨w6, hw6⟩ : ∃ y, y = sets w5 qm 0 ((rdM (Wi.opBody f)).1.m.cs (.slice sa (rdM (Wi.opBody f)).1.L.length sc) (.slice ta (rdM (Wi.opBody f)).1.D.length tc)) := ⟨_, rfl⟩
  rw [← hw6] at SP6 ⊢
  have hs6 : w6.heap.size = w5.heap.size := by rw [hw6, size_sets]
  clear hw6 hw5
  have M6 := M5.upd SP6.2 (by omega)
  have C6 : CfB w6 w.heap.size c := ⟨by omega, fun i x hx => (SP6.2.cell (p := ⟨w.heap.size, i, none⟩) C5.lt (by show ¬ w.heap.size = qm; omega)).trans (C5.cell i x hx)⟩
  have hB6 : Below w.heap.size w w6 := hB4.trans ((hb45.mono hB4.size).trans (SP6.2.below (by omega) (by omega)))
  have OL6 := (OL.later8 hb45).far6 OL SP6.2 hqm
  have OD6 := (OD.later8 hb45).far6 OD SP6.2 hqm
  refine vt _ (ex_assign rfl (ev s27 rfl)) hz (fun A6_7 zz kk s7x => ?_)
  replace s2 := kt kk s2
  replace s4 := kt kk s4
  replace s8 := kt kk s8
  clear kk hz s26 s27
  have hz := zz
  have s7 := s7x
  clear zz s7x A6_6
  refine wpList_nil ?_
  go_upto_region 7 with fail
  refine wp_region_lit ?_
  refine vt _ (ex_move rfl (ev s7 rfl)) hz (fun A7_1 zz kk s28x => ?_)
  replace s2 := kt kk s2
  replace s4 := kt kk s4
  replace s7 := kt kk s7
  replace s8 := kt kk s8
  clear kk hz
  have hz := zz
  have s28 := s28x
  clear zz s28x
  refine vt (.bool (!decide ((rdM (Wi.opBody f)).2 = 0))) (ex_bin rfl (ev s28 rfl) rfl (neqEr _ _ _ _ _)) hz (fun A7_2 zz kk s29x => ?_)
  replace s2 := kt kk s2
  replace s4 := kt kk s4
  replace s7 := kt kk s7
  replace s8 := kt kk s8
  clear kk hz s28
  have hz := zz
  have s29 := s29x
  clear zz s29x A7_1
  refine wpList_nil ?_
  go_upto_region 9 with fail
  cases e7 : !decide ((rdM (Wi.opBody f)).2 = 0)
  rotate_left
  · refine wp_cond_true ((ev s29 rfl).trans (congrArg Value.bool e7)) ?_
    have hn : ¬ (rdM (Wi.opBody f)).2 = 0 := by simpa using e7
    have VV : dcM c f = (⟨zG, [], [], (0, 0)⟩, (rdM (Wi.opBody f)).2) := by unfold dcM; rw [if_neg (by simp [hcf]), if_neg (by simp [hop]), if_pos hn]
    clear s2 s8 s29
    go_upto_region 8 with fail
    refine wp_region_lit ?_
    refine vt (zG.val nilS nilS) (ex_build rfl (bdM0 _)) hz (fun A8_1 zz kk s30x => ?_)
    replace s4 := kt kk s4
    replace s7 := kt kk s7
    clear kk hz
    have hz := zz
    have s30 := s30x
    clear zz s30x
    refine vt _ (ex_move rfl (ev s7 rfl)) hz (fun A8_2 zz kk s31x => ?_)
    replace s4 := kt kk s4
    replace s30 := kt kk s30
    clear kk hz s7
    have hz := zz
    have s31 := s31x
    clear zz s31x A8_1
    refine vs (sets w6 (w.heap.size + 1) 0 (zG.cs nilS nilS)) (want_none rfl) (ex_st rfl (ev s4 rfl) (ev s30 rfl) (stM M6 zG nilS nilS rfl rfl)) rfl ?_
    have SP := M6.putU zG nilS nilS
    obtain ⟨we, hwe⟩ : ∃ y, y = sets w6 (w.heap.size + 1) 0 (zG.cs nilS nilS) := ⟨_, rfl⟩
    rw [← hwe] at SP ⊢
    clear hwe
    refine vt _ (ex_assign rfl (ev s31 rfl)) hz (fun A8_3 zz kk s5x => ?_)
    replace s4 := kt kk s4
    clear kk hz s30 s31
    have hz := zz
    have s5 := s5x
    clear zz s5x A8_2
    refine wpList_nil ?_
    have hfin : Below w.heap.size w we := hB6.trans (SP.2.below (by have := (hB6).size; omega) (by omega))
    go_wp2
    refine bodyPost_msg rfl s4 s5 SP.1 ?_
    rw [VV]
    exact ⟨_, _, rfl, OwnY.nil _ _ _, OwnY.nil _ _ _, hfin⟩
  refine wp_cond_false ((ev s29 rfl).trans (congrArg Value.bool e7)) ?_
  have hrd : (rdM (Wi.opBody f)).2 = 0 := by simpa using e7
  clear s29 e7 s7
  go_upto_region 9 with fail
  refine wp_region_lit ?_
  refine vt (.agg #[.int .i64 c.f, .int .i64 c.r, .int .i64 c.p, .bool c.u]) (ex_ld rfl (ev s2 rfl) ((C6).ldAll)) hz (fun A9_1 zz kk s32x => ?_)
  replace s4 := kt kk s4
  replace s8 := kt kk s8
  clear kk hz s2
  have hz := zz
  have s32 := s32x
  clear zz s32x
  refine vt ((rdM (Wi.opBody f)).1.m.val (.slice sa (rdM (Wi.opBody f)).1.L.length sc) (.slice ta (rdM (Wi.opBody f)).1.D.length tc)) (ex_ld rfl (ev s8 rfl) (SP6.1.ldAll)) hz (fun A9_2 zz kk s33x => ?_)
  replace s4 := kt kk s4
  replace s8 := kt kk s8
  replace s32 := kt kk s32
  clear kk hz
  have hz := zz
  have s33 := s33x
  clear zz s33x A9_1
  refine vcallP (want_none rfl) (ex_call rfl (by simp only [List.map_toArray, List.map_cons, List.map_nil, (ev s32 rfl), (ev s33 rfl), evc] <;> rfl) rfl) (checkM_any c (rdM (Wi.opBody f)).1.m sa ta sc tc (rdM (Wi.opBody f)).1.L (rdM (Wi.opBody f)).1.D w6 (hT.later hB6 hT.lt) (OL6.sl' kE) (rdM_L _) (OD6.sl' kD) (rdM_e _)) rfl hz (by decide) ?_
  rintro e w7 ⟨rfl, hb7⟩
  refine ⟨_, rfl, fun A9_3 zz kk s34x => ?_⟩
  have M7 := M6.bel hb7
  have MM7 := SP6.1.bel hb7
  have hB7 := hB6.trans (hb7.mono hB6.size)
  have hs7 := hb7.size
  have OL7 := OL6.later8 hb7
  have OD7 := OD6.later8 hb7
  replace s4 := kt kk s4
  replace s8 := kt kk s8
  clear kk hz s32 s33
  have hz := zz
  have s34 := s34x
  clear zz s34x A9_2
  refine vt _ (ex_assign rfl (ev s34 rfl)) hz (fun A9_4 zz kk s9x => ?_)
  replace s4 := kt kk s4
  replace s8 := kt kk s8
  clear kk hz s34
  have hz := zz
  have s9 := s9x
  clear zz s9x A9_3
  refine wpList_nil ?_
  go_upto_region 10 with fail
  refine wp_region_lit ?_
  refine vt _ (ex_move rfl (ev s9 rfl)) hz (fun A10_1 zz kk s35x => ?_)
  replace s4 := kt kk s4
  replace s8 := kt kk s8
  replace s9 := kt kk s9
  clear kk hz
  have hz := zz
  have s35 := s35x
  clear zz s35x
  refine vt (.bool (!decide ((ckM c (rdM (Wi.opBody f)).1.m (rdM (Wi.opBody f)).1.L (rdM (Wi.opBody f)).1.D) = 0))) (ex_bin rfl (ev s35 rfl) rfl (neqEr _ _ _ _ _)) hz (fun A10_2 zz kk s36x => ?_)
  replace s4 := kt kk s4
  replace s8 := kt kk s8
  replace s9 := kt kk s9
  clear kk hz s35
  have hz := zz
  have s36 := s36x
  clear zz s36x A10_1
  refine wpList_nil ?_
  go_upto_region 12 with fail
  cases e10 : !decide ((ckM c (rdM (Wi.opBody f)).1.m (rdM (Wi.opBody f)).1.L (rdM (Wi.opBody f)).1.D) = 0)
  rotate_left
  · refine wp_cond_true ((ev s36 rfl).trans (congrArg Value.bool e10)) ?_
    have hn : ¬ (ckM c (rdM (Wi.opBody f)).1.m (rdM (Wi.opBody f)).1.L (rdM (Wi.opBody f)).1.D) = 0 := by simpa using e10
    have VV : dcM c f = (⟨zG, [], [], (0, 0)⟩, (ckM c (rdM (Wi.opBody f)).1.m (rdM (Wi.opBody f)).1.L (rdM (Wi.opBody f)).1.D)) := by unfold dcM; rw [if_neg (by simp [hcf]), if_neg (by simp [hop]), if_neg (by simp [hrd]), if_pos hn]
    clear s8 s36
    go_upto_region 11 with fail
    refine wp_region_lit ?_
    refine vt (zG.val nilS nilS) (ex_build rfl (bdM0 _)) hz (fun A11_1 zz kk s37x => ?_)
    replace s4 := kt kk s4
    replace s9 := kt kk s9
    clear kk hz
    have hz := zz
    have s37 := s37x
    clear zz s37x
    refine vt _ (ex_move rfl (ev s9 rfl)) hz (fun A11_2 zz kk s38x => ?_)
    replace s4 := kt kk s4
    replace s37 := kt kk s37
    clear kk hz s9
    have hz := zz
    have s38 := s38x
    clear zz s38x A11_1
    refine vs (sets w7 (w.heap.size + 1) 0 (zG.cs nilS nilS)) (want_none rfl) (ex_st rfl (ev s4 rfl) (ev s37 rfl) (stM M7 zG nilS nilS rfl rfl)) rfl ?_
    have SP := M7.putU zG nilS nilS
    obtain ⟨we, hwe⟩ : ∃ y, y = sets w7 (w.heap.size + 1) 0 (zG.cs nilS nilS) := ⟨_, rfl⟩
    rw [← hwe] at SP ⊢
    clear hwe
    refine vt _ (ex_assign rfl (ev s38 rfl)) hz (fun A11_3 zz kk s5x => ?_)
    replace s4 := kt kk s4
    clear kk hz s37 s38
    have hz := zz
    have s5 := s5x
    clear zz s5x A11_2
    refine wpList_nil ?_
    have hfin : Below w.heap.size w we := hB7.trans (SP.2.below (by have := (hB7).size; omega) (by omega))
    go_wp2
    refine bodyPost_msg rfl s4 s5 SP.1 ?_
    rw [VV]
    exact ⟨_, _, rfl, OwnY.nil _ _ _, OwnY.nil _ _ _, hfin⟩
  refine wp_cond_false ((ev s36 rfl).trans (congrArg Value.bool e10)) ?_
  have hck : (ckM c (rdM (Wi.opBody f)).1.m (rdM (Wi.opBody f)).1.L (rdM (Wi.opBody f)).1.D) = 0 := by simpa using e10
  clear s36 e10 s9
  have VV : dcM c f = ((rdM (Wi.opBody f)).1, 0) := by unfold dcM; rw [if_neg (by simp [hcf]), if_neg (by simp [hop]), if_neg (by simp [hrd]), if_neg (by simp [hck])]
  go_upto_region 12 with fail
  refine wp_region_lit ?_
  refine vt ((rdM (Wi.opBody f)).1.m.val (.slice sa (rdM (Wi.opBody f)).1.L.length sc) (.slice ta (rdM (Wi.opBody f)).1.D.length tc)) (ex_ld rfl (ev s8 rfl) (MM7.ldAll)) hz (fun A12_1 zz kk s39x => ?_)
  replace s4 := kt kk s4
  clear kk hz s8
  have hz := zz
  have s39 := s39x
  clear zz s39x
  refine vs (sets w7 (w.heap.size + 1) 0 ((rdM (Wi.opBody f)).1.m.cs (.slice sa (rdM (Wi.opBody f)).1.L.length sc) (.slice ta (rdM (Wi.opBody f)).1.D.length tc))) (want_none rfl) (ex_st rfl (ev s4 rfl) (ev s39 rfl) (stM M7 (rdM (Wi.opBody f)).1.m (.slice sa (rdM (Wi.opBody f)).1.L.length sc) (.slice ta (rdM (Wi.opBody f)).1.D.length tc) rfl rfl)) rfl ?_
  have SP := M7.putU (rdM (Wi.opBody f)).1.m (.slice sa (rdM (Wi.opBody f)).1.L.length sc) (.slice ta (rdM (Wi.opBody f)).1.D.length tc)
  obtain ⟨we, hwe⟩ : ∃ y, y = sets w7 (w.heap.size + 1) 0 ((rdM (Wi.opBody f)).1.m.cs (.slice sa (rdM (Wi.opBody f)).1.L.length sc) (.slice ta (rdM (Wi.opBody f)).1.D.length tc)) := ⟨_, rfl⟩
  rw [← hwe] at SP ⊢
  clear hwe
  refine vt (.int .i64 0) (ex_assign rfl rfl) hz (fun A12_2 zz kk s5x => ?_)
  replace s4 := kt kk s4
  clear kk hz s39
  have hz := zz
  have s5 := s5x
  clear zz s5x A12_1
  refine wpList_nil ?_
  have hfin : Below w.heap.size w we := hB7.trans (SP.2.below (by omega) (by omega))
  have hlow : w.heap.size ≤ w3.heap.size := hB3.size
  have OLe := ((OL7.far SP.2 (fun k hk => by omega)).low hlow)
  have ODe := ((OD7.far SP.2 (fun k hk => by omega)).low hlow)
  go_wp2
  refine bodyPost_msg rfl s4 s5 SP.1 ?_
  rw [VV]
  exact ⟨_, _, rfl, OLe, ODe, hfin⟩
def RB {α : Type} (piece : List Int) (rd : List Int → Nat × Int → α) (st : List Int → Nat × Int → Nat × Int) (v : α) : Prop := ∀ (l : List Int) (p : Nat) (rest : List Int), l.drop p = piece ++ rest → rd l (p, 0) = v ∧ st l (p, 0) = (p + piece.length, 0)
theorem drop_next {l : List Int} {p : Nat} {a b : List Int} (h : l.drop p = a ++ b) : l.drop (p + a.length) = b := by
  rw [← List.drop_drop, h, List.drop_left]
theorem rb_N (x : Nat) (hx : x < 18446744073709551616) : RB (M.form x) rN sN x := by
  intro l p rest h
  obtain ⟨h1, h2, h3⟩ := Wi.tn_read x hx rest
  unfold rN sN
  rw [h]
  simp only [Wi.sel_ok, Wi.selE_ok, h1, h2, h3, and_self]
theorem rb_I (m : Int) (x : Nat) (hx : x ≤ 9223372036854775807) (hm : (x : Int) ≤ m) : RB (M.form x) (rI m) (sI m) x := by
  intro l p rest h
  obtain ⟨h1, h2, h3⟩ := Wi.tc_read x m hx hm rest
  unfold rI sI
  rw [h]
  simp only [Wi.sel_ok, Wi.selE_ok, h1, h2, h3, and_self]
theorem sb_len (v : ByteArray) : (Wi.sb v).length = v.size := by
  show (v.data.toList.map _).length = v.data.size
  simp
theorem rb_T (v : ByteArray) (hv : v.size ≤ 64) : RB (M.form v.size ++ Wi.sb v) rT sT v := by
  intro l p rest h
  have hl := sb_len v
  obtain ⟨h1, h2, h3⟩ := Wi.tt_read (Wi.sb v) 64 (by omega) (by omega) rest
  rw [hl] at h1 h2 h3
  unfold rT sT
  rw [h]
  simp only [Wi.sel_ok, Wi.selE_ok, Wi.selL_ok, h1, h2, h3, Wi.str_sb, and_self]
theorem RB.two {α β γ : Type} {a b : List Int} {ra : List Int → Nat × Int → α} {rb : List Int → Nat × Int → β} {sa sb : List Int → Nat × Int → Nat × Int} {x : α} {y : β} (ha : RB a ra sa x) (hb : RB b rb sb y) (f : α → β → γ) : RB (a ++ b) (fun l s => f (ra l s) (rb l (sa l s))) (fun l s => sb l (sa l s)) (f x y) := by
  intro l p rest h
  rw [List.append_assoc] at h
  obtain ⟨h1, h2⟩ := ha l p _ h
  obtain ⟨h3, h4⟩ := hb l (p + a.length) rest (drop_next h)
  simp only [h1, h2, h3, h4, List.length_append, Nat.add_assoc, and_self]
theorem rb_D (d : Int × Int) (h : drF d) : RB (drBy d.1.toNat d.2.toNat) rD sD d := by
  obtain ⟨h1, h2, h3, h4⟩ := h
  have := (rb_N d.1.toNat (by omega)).two (rb_N d.2.toNat (by omega)) (fun x y => ((x : Int), (y : Int)))
  rw [show (((d.1.toNat : Nat) : Int), ((d.2.toNat : Nat) : Int)) = d from by rw [Int.toNat_of_nonneg h1, Int.toNat_of_nonneg h3]] at this
  exact this
theorem rb_2 (x y : Nat) (hx : x ≤ 9223372036854775807) (hy : y ≤ 9223372036854775807) : RB (nmBy x y) (fun l s => (rI mxI l s, rI mxI l (sI mxI l s))) s2 (x, y) :=
  (rb_I mxI x hx (by unfold mxI; omega)).two (rb_I mxI y hy (by unfold mxI; omega)) Prod.mk
theorem rb_O (o : Opn) (h : 0 ≤ o.k ∧ o.k ≤ 9223372036854775807 ∧ 0 ≤ o.s ∧ o.s ≤ 9223372036854775807 ∧ o.v.size ≤ 64) : RB (opBy o.k.toNat o.s.toNat o.v) rO sO o := by
  obtain ⟨h1, h2, h3, h4, h5⟩ := h
  have := (rb_2 o.k.toNat o.s.toNat (by omega) (by omega)).two (rb_T o.v h5) (fun x y => (⟨(x.1 : Int), (x.2 : Int), y⟩ : Opn))
  simp only [Int.toNat_of_nonneg h1, Int.toNat_of_nonneg h3] at this
  unfold nmBy at this
  rw [List.append_assoc] at this
  exact this
theorem rb_E (e : En) (h : enF e) : RB (enBy e) rE sE e := by
  obtain ⟨h1, h2, h3, h4, h5⟩ := h
  have := (rb_2 e.c.toNat e.n.toNat (by omega) (by omega)).two (rb_O e.o h5) (fun x y => (⟨(x.1 : Int), (x.2 : Int), y⟩ : En))
  simp only [Int.toNat_of_nonneg h1, Int.toNat_of_nonneg h3] at this
  exact this
theorem flat_at {α : Type} (f : α → List Int) (X : List α) (j : Nat) (hj : j < X.length) : X.flatMap f = (X.take j).flatMap f ++ (f X[j] ++ (X.drop (j + 1)).flatMap f) := by
  have h : X = X.take j ++ (X[j] :: X.drop (j + 1)) := by rw [← List.drop_eq_getElem_cons hj, List.take_append_drop]
  refine (congrArg (fun Y => Y.flatMap f) h).trans ?_
  show (X.take j ++ (X[j] :: X.drop (j + 1))).flatMap f = _
  rw [List.flatMap_append, List.flatMap_cons]
theorem rb_list {α : Type} (by_ : α → List Int) (rd : List Int → Nat × Int → α) (st : List Int → Nat × Int → Nat × Int) (S : List Int → Nat × Int → Nat → Nat × Int) (h0 : ∀ l s, S l s 0 = s) (hS : ∀ l s j, S l s (j + 1) = st l (S l s j)) (X : List α) (hX : ∀ x ∈ X, RB (by_ x) rd st x) :
    RB (X.flatMap by_) (fun l s => (List.range X.length).map fun i => rd l (S l s i)) (fun l s => S l s X.length) X := by
  intro l p rest h
  have key : ∀ j, j ≤ X.length → S l (p, 0) j = (p + ((X.take j).flatMap by_).length, 0) := by
    intro j
    induction j with
    | zero => intro _; rw [h0]; simp
    | succ j ih =>
      intro hj
      have hd : l.drop (p + ((X.take j).flatMap by_).length) = by_ X[j] ++ ((X.drop (j + 1)).flatMap by_ ++ rest) := by
        refine drop_next (a := (X.take j).flatMap by_) ?_
        rw [h, flat_at by_ X j (by omega)]
        simp only [List.append_assoc]
      rw [hS, ih (by omega), (hX X[j] (List.getElem_mem _) l _ _ hd).2]
      rw [List.take_succ_eq_append_getElem (by omega), List.flatMap_append]
      simp [Nat.add_assoc]
  refine ⟨?_, ?_⟩
  · apply List.ext_getElem?
    intro i
    by_cases hi : i < X.length
    · have hd : l.drop (p + ((X.take i).flatMap by_).length) = by_ X[i] ++ ((X.drop (i + 1)).flatMap by_ ++ rest) := by
        refine drop_next (a := (X.take i).flatMap by_) ?_
        rw [h, flat_at by_ X i hi]
        simp only [List.append_assoc]
      rw [List.getElem?_map, List.getElem?_range hi, List.getElem?_eq_getElem hi]
      show some (rd l (S l (p, 0) i)) = _
      rw [key i (by omega), (hX X[i] (List.getElem_mem _) l _ _ hd).1]
    · rw [List.getElem?_eq_none (by simp; omega), List.getElem?_eq_none (by omega)]
  · show S l (p, 0) X.length = _
    rw [key X.length (Nat.le_refl _), List.take_length]
theorem rb_log (L : List En) (hl : L.length ≤ 256) (h : ∀ e ∈ L, enF e) : RB (lgBy L) (fun l s => esL l (sI 256 l s) (rI 256 l s)) (fun l s => esS l (sI 256 l s) (rI 256 l s)) L := by
  intro l p rest hd
  unfold lgBy at hd
  rw [List.append_assoc] at hd
  obtain ⟨h1, h2⟩ := rb_I 256 L.length (by omega) (by omega) l p _ hd
  obtain ⟨h3, h4⟩ := rb_list enBy rE sE esS (fun _ _ => rfl) (fun _ _ _ => rfl) L (fun e he => rb_E e (h e he)) l _ rest (drop_next hd)
  simp only [h1, h2]
  refine ⟨h3, h4.trans ?_⟩
  unfold lgBy esBy
  rw [List.length_append, Nat.add_assoc]
theorem rb_vec (D : List (Int × Int)) (hl : D.length ≤ 7) (h : ∀ d ∈ D, drF d) : RB (veBy D) (fun l s => dsL l (sI 7 l s) (rI 7 l s)) (fun l s => dsS l (sI 7 l s) (rI 7 l s)) D := by
  intro l p rest hd
  unfold veBy at hd
  rw [List.append_assoc] at hd
  obtain ⟨h1, h2⟩ := rb_I 7 D.length (by omega) (by omega) l p _ hd
  obtain ⟨h3, h4⟩ := rb_list (fun d => drBy d.1.toNat d.2.toNat) rD sD dsS (fun _ _ => rfl) (fun _ _ _ => rfl) D (fun d hd => rb_D d (h d hd)) l _ rest (drop_next hd)
  simp only [h1, h2]
  refine ⟨h3, h4.trans ?_⟩
  unfold veBy dsBy
  rw [List.length_append, Nat.add_assoc]
structure Ag (j : Nat) (x : Rst) (m : Mg) (L : List En) (D : List (Int × Int)) : Prop where
  k : x.m.k = m.k
  f0 : x.m.nd = if 0 < j then m.nd else 0
  f1 : x.m.vw = if 1 < j then m.vw else 0
  f2 : x.m.ls = if 2 < j then m.ls else 0
  f3 : x.m.p = if 3 < j then m.p else 0
  f4 : x.m.cm = if 4 < j then m.cm else 0
  f5 : x.m.d = if 5 < j then m.d else (0, 0)
  f6 : x.m.e = if 6 < j then m.e else ⟨0, 0, ⟨0, 0, ⟨#[]⟩⟩⟩
  f7 : x.m.r = if 7 < j then m.r else (0, 0, ⟨#[]⟩)
  f8 : x.L = if 8 < j then L else []
  f9 : x.D = if 9 < j then D else []
theorem ag_0 (op : Bool) {x : Rst} {m : Mg} {L : List En} {D : List (Int × Int)} {l : List Int} {p : Nat} {rest : List Int} (hm : mgF m L D) (hs : x.s = (p, 0)) (hd : l.drop p = colBy m L D 0 op ++ rest) (A : Ag 0 x m L D) : Ag (0 + 1) (rCol l x 0 op) m L D ∧ (rCol l x 0 op).s = (p + (colBy m L D 0 op).length, 0) := by
  have r := rb_I mxI m.nd.toNat (by have := hm.nd; omega) (by unfold mxI; have := hm.nd; omega) l p rest hd
  have e : ((m.nd.toNat : Nat) : Int) = m.nd := Int.toNat_of_nonneg hm.nd.1
  have v : (rCol l x 0 op).m.nd = m.nd := by show ((rI mxI l x.s : Nat) : Int) = _; rw [hs, r.1, e]
  refine ⟨⟨A.k, by simpa using v, A.f1.trans (by simp), A.f2.trans (by simp), A.f3.trans (by simp), A.f4.trans (by simp), A.f5.trans (by simp), A.f6.trans (by simp), A.f7.trans (by simp), A.f8.trans (by simp), A.f9.trans (by simp)⟩, ?_⟩
  show sI mxI l x.s = _
  rw [hs]
  exact r.2
theorem ag_1 (op : Bool) {x : Rst} {m : Mg} {L : List En} {D : List (Int × Int)} {l : List Int} {p : Nat} {rest : List Int} (hm : mgF m L D) (hs : x.s = (p, 0)) (hd : l.drop p = colBy m L D 1 op ++ rest) (A : Ag 1 x m L D) : Ag (1 + 1) (rCol l x 1 op) m L D ∧ (rCol l x 1 op).s = (p + (colBy m L D 1 op).length, 0) := by
  have r := rb_I mxI m.vw.toNat (by have := hm.vw; omega) (by unfold mxI; have := hm.vw; omega) l p rest hd
  have e : ((m.vw.toNat : Nat) : Int) = m.vw := Int.toNat_of_nonneg hm.vw.1
  have v : (rCol l x 1 op).m.vw = m.vw := by show ((rI mxI l x.s : Nat) : Int) = _; rw [hs, r.1, e]
  refine ⟨⟨A.k, A.f0.trans (by simp), by simpa using v, A.f2.trans (by simp), A.f3.trans (by simp), A.f4.trans (by simp), A.f5.trans (by simp), A.f6.trans (by simp), A.f7.trans (by simp), A.f8.trans (by simp), A.f9.trans (by simp)⟩, ?_⟩
  show sI mxI l x.s = _
  rw [hs]
  exact r.2
theorem ag_2 (op : Bool) {x : Rst} {m : Mg} {L : List En} {D : List (Int × Int)} {l : List Int} {p : Nat} {rest : List Int} (hm : mgF m L D) (hs : x.s = (p, 0)) (hd : l.drop p = colBy m L D 2 op ++ rest) (A : Ag 2 x m L D) : Ag (2 + 1) (rCol l x 2 op) m L D ∧ (rCol l x 2 op).s = (p + (colBy m L D 2 op).length, 0) := by
  have r := rb_I mxI m.ls.toNat (by have := hm.ls; omega) (by unfold mxI; have := hm.ls; omega) l p rest hd
  have e : ((m.ls.toNat : Nat) : Int) = m.ls := Int.toNat_of_nonneg hm.ls.1
  have v : (rCol l x 2 op).m.ls = m.ls := by show ((rI mxI l x.s : Nat) : Int) = _; rw [hs, r.1, e]
  refine ⟨⟨A.k, A.f0.trans (by simp), A.f1.trans (by simp), by simpa using v, A.f3.trans (by simp), A.f4.trans (by simp), A.f5.trans (by simp), A.f6.trans (by simp), A.f7.trans (by simp), A.f8.trans (by simp), A.f9.trans (by simp)⟩, ?_⟩
  show sI mxI l x.s = _
  rw [hs]
  exact r.2
theorem ag_3 (op : Bool) {x : Rst} {m : Mg} {L : List En} {D : List (Int × Int)} {l : List Int} {p : Nat} {rest : List Int} (hm : mgF m L D) (hs : x.s = (p, 0)) (hd : l.drop p = colBy m L D 3 op ++ rest) (A : Ag 3 x m L D) : Ag (3 + 1) (rCol l x 3 op) m L D ∧ (rCol l x 3 op).s = (p + (colBy m L D 3 op).length, 0) := by
  have r := rb_I mxI m.p.toNat (by have := hm.p; omega) (by unfold mxI; have := hm.p; omega) l p rest hd
  have e : ((m.p.toNat : Nat) : Int) = m.p := Int.toNat_of_nonneg hm.p.1
  have v : (rCol l x 3 op).m.p = m.p := by show ((rI mxI l x.s : Nat) : Int) = _; rw [hs, r.1, e]
  refine ⟨⟨A.k, A.f0.trans (by simp), A.f1.trans (by simp), A.f2.trans (by simp), by simpa using v, A.f4.trans (by simp), A.f5.trans (by simp), A.f6.trans (by simp), A.f7.trans (by simp), A.f8.trans (by simp), A.f9.trans (by simp)⟩, ?_⟩
  show sI mxI l x.s = _
  rw [hs]
  exact r.2
theorem ag_4 (op : Bool) {x : Rst} {m : Mg} {L : List En} {D : List (Int × Int)} {l : List Int} {p : Nat} {rest : List Int} (hm : mgF m L D) (hs : x.s = (p, 0)) (hd : l.drop p = colBy m L D 4 op ++ rest) (A : Ag 4 x m L D) : Ag (4 + 1) (rCol l x 4 op) m L D ∧ (rCol l x 4 op).s = (p + (colBy m L D 4 op).length, 0) := by
  have r := rb_I mxI m.cm.toNat (by have := hm.cm; omega) (by unfold mxI; have := hm.cm; omega) l p rest hd
  have e : ((m.cm.toNat : Nat) : Int) = m.cm := Int.toNat_of_nonneg hm.cm.1
  have v : (rCol l x 4 op).m.cm = m.cm := by show ((rI mxI l x.s : Nat) : Int) = _; rw [hs, r.1, e]
  refine ⟨⟨A.k, A.f0.trans (by simp), A.f1.trans (by simp), A.f2.trans (by simp), A.f3.trans (by simp), by simpa using v, A.f5.trans (by simp), A.f6.trans (by simp), A.f7.trans (by simp), A.f8.trans (by simp), A.f9.trans (by simp)⟩, ?_⟩
  show sI mxI l x.s = _
  rw [hs]
  exact r.2
theorem ag_5 (op : Bool) {x : Rst} {m : Mg} {L : List En} {D : List (Int × Int)} {l : List Int} {p : Nat} {rest : List Int} (hm : mgF m L D) (hs : x.s = (p, 0)) (hd : l.drop p = colBy m L D 5 op ++ rest) (A : Ag 5 x m L D) : Ag (5 + 1) (rCol l x 5 op) m L D ∧ (rCol l x 5 op).s = (p + (colBy m L D 5 op).length, 0) := by
  have r := rb_D m.d hm.d l p rest hd
  have v : (rCol l x 5 op).m.d = m.d := by show rD l x.s = _; rw [hs, r.1]
  refine ⟨⟨A.k, A.f0.trans (by simp), A.f1.trans (by simp), A.f2.trans (by simp), A.f3.trans (by simp), A.f4.trans (by simp), by simpa using v, A.f6.trans (by simp), A.f7.trans (by simp), A.f8.trans (by simp), A.f9.trans (by simp)⟩, ?_⟩
  show sD l x.s = _
  rw [hs]
  exact r.2
theorem ag_6 (op : Bool) {x : Rst} {m : Mg} {L : List En} {D : List (Int × Int)} {l : List Int} {p : Nat} {rest : List Int} (hm : mgF m L D) (hs : x.s = (p, 0)) (h15 : op = false → m.e.o = ⟨0, 0, ⟨#[]⟩⟩) (hd : l.drop p = colBy m L D 6 op ++ rest) (A : Ag 6 x m L D) : Ag (6 + 1) (rCol l x 6 op) m L D ∧ (rCol l x 6 op).s = (p + (colBy m L D 6 op).length, 0) := by
  cases op with
  | true =>
    have r := rb_E m.e hm.e l p rest hd
    have v : (rCol l x 6 true).m.e = m.e := by show rE l x.s = _; rw [hs, r.1]
    refine ⟨⟨A.k, A.f0.trans (by simp), A.f1.trans (by simp), A.f2.trans (by simp), A.f3.trans (by simp), A.f4.trans (by simp), A.f5.trans (by simp), by simpa using v, A.f7.trans (by simp), A.f8.trans (by simp), A.f9.trans (by simp)⟩, ?_⟩
    show sE l x.s = _
    rw [hs]
    exact r.2
  | false =>
    have he := hm.e
    obtain ⟨h1, h2, h3, h4, _⟩ := he
    have hd2 : l.drop p = nmBy m.e.c.toNat m.e.n.toNat ++ rest := by rw [hd]; simp [colBy]
    have r := rb_2 m.e.c.toNat m.e.n.toNat (by omega) (by omega) l p rest hd2
    have r1 := congrArg Prod.fst r.1
    have r2 := congrArg Prod.snd r.1
    simp only at r1 r2
    have v : (rCol l x 6 false).m.e = m.e := by
      show (⟨((rI mxI l x.s : Nat) : Int), ((rI mxI l (sI mxI l x.s) : Nat) : Int), ⟨0, 0, ⟨#[]⟩⟩⟩ : En) = m.e
      rw [hs, r1, r2, Int.toNat_of_nonneg h1, Int.toNat_of_nonneg h3, ← h15 rfl]
    refine ⟨⟨A.k, A.f0.trans (by simp), A.f1.trans (by simp), A.f2.trans (by simp), A.f3.trans (by simp), A.f4.trans (by simp), A.f5.trans (by simp), by simpa using v, A.f7.trans (by simp), A.f8.trans (by simp), A.f9.trans (by simp)⟩, ?_⟩
    show s2 l x.s = _
    rw [hs, r.2]
    simp [colBy]
theorem ag_7 (op : Bool) {x : Rst} {m : Mg} {L : List En} {D : List (Int × Int)} {l : List Int} {p : Nat} {rest : List Int} (hm : mgF m L D) (hs : x.s = (p, 0)) (hd : l.drop p = colBy m L D 7 op ++ rest) (A : Ag 7 x m L D) : Ag (7 + 1) (rCol l x 7 op) m L D ∧ (rCol l x 7 op).s = (p + (colBy m L D 7 op).length, 0) := by
  have hr := hm.r
  have r := rb_O ⟨m.r.1, m.r.2.1, m.r.2.2⟩ hr l p rest hd
  have v : (rCol l x 7 op).m.r = m.r := by show ((rO l x.s).k, (rO l x.s).s, (rO l x.s).v) = _; rw [hs, r.1]
  refine ⟨⟨A.k, A.f0.trans (by simp), A.f1.trans (by simp), A.f2.trans (by simp), A.f3.trans (by simp), A.f4.trans (by simp), A.f5.trans (by simp), A.f6.trans (by simp), by simpa using v, A.f8.trans (by simp), A.f9.trans (by simp)⟩, ?_⟩
  show sO l x.s = _
  rw [hs]
  exact r.2
theorem ag_8 (op : Bool) {x : Rst} {m : Mg} {L : List En} {D : List (Int × Int)} {l : List Int} {p : Nat} {rest : List Int} (hm : mgF m L D) (hs : x.s = (p, 0)) (hd : l.drop p = colBy m L D 8 op ++ rest) (A : Ag 8 x m L D) : Ag (8 + 1) (rCol l x 8 op) m L D ∧ (rCol l x 8 op).s = (p + (colBy m L D 8 op).length, 0) := by
  have r := rb_log L hm.lL hm.es l p rest hd
  have v : (rCol l x 8 op).L = L := by show esL l (sI 256 l x.s) (rI 256 l x.s) = _; rw [hs]; exact r.1
  refine ⟨⟨A.k, A.f0.trans (by simp), A.f1.trans (by simp), A.f2.trans (by simp), A.f3.trans (by simp), A.f4.trans (by simp), A.f5.trans (by simp), A.f6.trans (by simp), A.f7.trans (by simp), by simpa using v, A.f9.trans (by simp)⟩, ?_⟩
  show esS l (sI 256 l x.s) (rI 256 l x.s) = _
  rw [hs]
  exact r.2
theorem ag_9 (op : Bool) {x : Rst} {m : Mg} {L : List En} {D : List (Int × Int)} {l : List Int} {p : Nat} {rest : List Int} (hm : mgF m L D) (hs : x.s = (p, 0)) (hd : l.drop p = colBy m L D 9 op ++ rest) (A : Ag 9 x m L D) : Ag (9 + 1) (rCol l x 9 op) m L D ∧ (rCol l x 9 op).s = (p + (colBy m L D 9 op).length, 0) := by
  have r := rb_vec D hm.lD hm.ds l p rest hd
  have v : (rCol l x 9 op).D = D := by show dsL l (sI 7 l x.s) (rI 7 l x.s) = _; rw [hs]; exact r.1
  refine ⟨⟨A.k, A.f0.trans (by simp), A.f1.trans (by simp), A.f2.trans (by simp), A.f3.trans (by simp), A.f4.trans (by simp), A.f5.trans (by simp), A.f6.trans (by simp), A.f7.trans (by simp), A.f8.trans (by simp), by simpa using v⟩, ?_⟩
  show dsS l (sI 7 l x.s) (rI 7 l x.s) = _
  rw [hs]
  exact r.2
theorem op15 {n : Nat} (h : (!decide ((n : Int) = 15)) = false) : n = 15 := by
  have h2 : (n : Int) = 15 := by simpa using h
  omega
def Blk (k : Nat) (m : Mg) (L : List En) (D : List (Int × Int)) : Prop := (∀ j, j < 10 → tabA k j = 0 → blB m L.length D.length j = true) ∧ (tabA k 6 = 15 → m.e.o = ⟨0, 0, ⟨#[]⟩⟩)
theorem ag_none {j : Nat} (hj : j < 10) {x : Rst} {m : Mg} {L : List En} {D : List (Int × Int)} (hb : blB m L.length D.length j = true) (A : Ag j x m L D) : Ag (j + 1) x m L D := by
  match j, hj with
  | 0, _ =>
    have h : m.nd = 0 := by simpa [blB] using hb
    refine ⟨A.k, by rw [A.f0]; simp [h], A.f1.trans (by simp), A.f2.trans (by simp), A.f3.trans (by simp), A.f4.trans (by simp), A.f5.trans (by simp), A.f6.trans (by simp), A.f7.trans (by simp), A.f8.trans (by simp), A.f9.trans (by simp)⟩
  | 1, _ =>
    have h : m.vw = 0 := by simpa [blB] using hb
    refine ⟨A.k, A.f0.trans (by simp), by rw [A.f1]; simp [h], A.f2.trans (by simp), A.f3.trans (by simp), A.f4.trans (by simp), A.f5.trans (by simp), A.f6.trans (by simp), A.f7.trans (by simp), A.f8.trans (by simp), A.f9.trans (by simp)⟩
  | 2, _ =>
    have h : m.ls = 0 := by simpa [blB] using hb
    refine ⟨A.k, A.f0.trans (by simp), A.f1.trans (by simp), by rw [A.f2]; simp [h], A.f3.trans (by simp), A.f4.trans (by simp), A.f5.trans (by simp), A.f6.trans (by simp), A.f7.trans (by simp), A.f8.trans (by simp), A.f9.trans (by simp)⟩
  | 3, _ =>
    have h : m.p = 0 := by simpa [blB] using hb
    refine ⟨A.k, A.f0.trans (by simp), A.f1.trans (by simp), A.f2.trans (by simp), by rw [A.f3]; simp [h], A.f4.trans (by simp), A.f5.trans (by simp), A.f6.trans (by simp), A.f7.trans (by simp), A.f8.trans (by simp), A.f9.trans (by simp)⟩
  | 4, _ =>
    have h : m.cm = 0 := by simpa [blB] using hb
    refine ⟨A.k, A.f0.trans (by simp), A.f1.trans (by simp), A.f2.trans (by simp), A.f3.trans (by simp), by rw [A.f4]; simp [h], A.f5.trans (by simp), A.f6.trans (by simp), A.f7.trans (by simp), A.f8.trans (by simp), A.f9.trans (by simp)⟩
  | 5, _ =>
    have h : m.d = (0, 0) := by simpa [blB] using hb
    refine ⟨A.k, A.f0.trans (by simp), A.f1.trans (by simp), A.f2.trans (by simp), A.f3.trans (by simp), A.f4.trans (by simp), by rw [A.f5]; simp [h], A.f6.trans (by simp), A.f7.trans (by simp), A.f8.trans (by simp), A.f9.trans (by simp)⟩
  | 6, _ =>
    have h : m.e = ⟨0, 0, ⟨0, 0, ⟨#[]⟩⟩⟩ := by simpa [blB, enb_iff, zEn] using hb
    refine ⟨A.k, A.f0.trans (by simp), A.f1.trans (by simp), A.f2.trans (by simp), A.f3.trans (by simp), A.f4.trans (by simp), A.f5.trans (by simp), by rw [A.f6]; simp [h], A.f7.trans (by simp), A.f8.trans (by simp), A.f9.trans (by simp)⟩
  | 7, _ =>
    have h : m.r = (0, 0, ⟨#[]⟩) := by simpa [blB] using hb
    refine ⟨A.k, A.f0.trans (by simp), A.f1.trans (by simp), A.f2.trans (by simp), A.f3.trans (by simp), A.f4.trans (by simp), A.f5.trans (by simp), A.f6.trans (by simp), by rw [A.f7]; simp [h], A.f8.trans (by simp), A.f9.trans (by simp)⟩
  | 8, _ =>
    have h : L = [] := List.length_eq_zero_iff.1 (by simpa [blB] using hb)
    refine ⟨A.k, A.f0.trans (by simp), A.f1.trans (by simp), A.f2.trans (by simp), A.f3.trans (by simp), A.f4.trans (by simp), A.f5.trans (by simp), A.f6.trans (by simp), A.f7.trans (by simp), by rw [A.f8]; simp [h], A.f9.trans (by simp)⟩
  | 9, _ =>
    have h : D = [] := List.length_eq_zero_iff.1 (by simpa [blB] using hb)
    refine ⟨A.k, A.f0.trans (by simp), A.f1.trans (by simp), A.f2.trans (by simp), A.f3.trans (by simp), A.f4.trans (by simp), A.f5.trans (by simp), A.f6.trans (by simp), A.f7.trans (by simp), A.f8.trans (by simp), by rw [A.f9]; simp [h]⟩
theorem cols_back {k : Nat} {m : Mg} {L : List En} {D : List (Int × Int)} (hm : mgF m L D) (hB : Blk k m L D) {l : List Int} {p : Nat} {rest : List Int} (x : Rst) (hs : x.s = (p, 0)) (A : Ag 0 x m L D) (hd : l.drop p = colsBy m L D k 10 ++ rest) :
    ∀ j, j ≤ 10 → Ag j (rCols l k x j) m L D ∧ (rCols l k x j).s = (p + (colsBy m L D k j).length, 0) := by
  intro j
  induction j with
  | zero => intro _; exact ⟨A, by show x.s = _; rw [hs]; simp [colsBy]⟩
  | succ j ih =>
    intro hj
    obtain ⟨A', hs'⟩ := ih (by omega)
    by_cases h0 : tabA k j = 0
    · rw [show rCols l k x (j + 1) = rCols l k x j by rw [rCols, if_pos h0], colsBy_none (by omega)]
      exact ⟨ag_none (by omega) (hB.1 j (by omega) h0) A', hs'⟩
    · rw [show rCols l k x (j + 1) = rCol l (rCols l k x j) j (!decide ((tabA k j : Int) = 15)) by rw [rCols, if_neg h0], colsBy_some (by omega)]
      obtain ⟨r2, hd2⟩ : ∃ r2, l.drop (p + (colsBy m L D k j).length) = colBy m L D j (!decide ((tabA k j : Int) = 15)) ++ r2 := by
        refine ⟨(List.range 10).drop (j + 1) |>.flatMap (fun i => if tabA k i = 0 then [] else colBy m L D i (!decide ((tabA k i : Int) = 15))) |>.append rest, ?_⟩
        refine drop_next (a := colsBy m L D k j) ?_
        rw [hd]
        have e := flat_at (fun i => if tabA k i = 0 then [] else colBy m L D i (!decide ((tabA k i : Int) = 15))) (List.range 10) j (by simp; omega)
        show (List.range 10).flatMap _ ++ rest = _
        rw [e, List.take_range, Nat.min_eq_left (by omega)]
        simp only [List.getElem_range, if_neg h0, List.append_assoc]
        rfl
      rw [List.length_append, ← Nat.add_assoc]
      have hj' : j < 10 := by omega
      match j, hj' with
      | 0, _ => exact ag_0 (!decide ((tabA k 0 : Int) = 15)) hm hs' hd2 A'
      | 1, _ => exact ag_1 (!decide ((tabA k 1 : Int) = 15)) hm hs' hd2 A'
      | 2, _ => exact ag_2 (!decide ((tabA k 2 : Int) = 15)) hm hs' hd2 A'
      | 3, _ => exact ag_3 (!decide ((tabA k 3 : Int) = 15)) hm hs' hd2 A'
      | 4, _ => exact ag_4 (!decide ((tabA k 4 : Int) = 15)) hm hs' hd2 A'
      | 5, _ => exact ag_5 (!decide ((tabA k 5 : Int) = 15)) hm hs' hd2 A'
      | 6, _ => exact ag_6 (!decide ((tabA k 6 : Int) = 15)) hm hs' (fun h => hB.2 (op15 h)) hd2 A'
      | 7, _ => exact ag_7 (!decide ((tabA k 7 : Int) = 15)) hm hs' hd2 A'
      | 8, _ => exact ag_8 (!decide ((tabA k 8 : Int) = 15)) hm hs' hd2 A'
      | 9, _ => exact ag_9 (!decide ((tabA k 9 : Int) = 15)) hm hs' hd2 A'
theorem body_back {c : Cf} {m : Mg} {L : List En} {D : List (Int × Int)} (h : ckM c m L D = 0) (hm : mgF m L D) (hk : 1 ≤ m.k ∧ m.k ≤ 14) : ∃ s, rdM (mbBy m L D m.k.toNat) = (⟨m, L, D, s⟩, 0) := by
  obtain ⟨k, hkn⟩ := Int.eq_ofNat_of_zero_le (show 0 ≤ m.k by omega)
  have hkt : m.k.toNat = k := by omega
  have hall : ∀ j, j < 10 → keepB c.f c.r m L D j (tabA k j) = true := by
    unfold ckM at h
    split at h
    · omega
    · split at h
      · omega
      · split at h
        · rename_i ha
          rw [hkt] at ha
          exact fun j hj => List.all_eq_true.1 ha j (List.mem_range.2 hj)
        · omega
  have hB : Blk k m L D := by
    refine ⟨fun j hj h0 => ?_, fun h15 => ?_⟩
    · have := hall j hj
      rw [h0] at this
      exact this
    · have := hall 6 (by decide)
      rw [h15] at this
      have h2 : nmB m.e = true := this
      unfold nmB at h2
      simp only [Bool.and_eq_true, decide_eq_true_eq] at h2
      obtain ⟨⟨a1, a2, a3⟩, _⟩ := h2
      cases ho : m.e.o with
      | mk a b v => rw [ho] at a1 a2 a3; simp only at a1 a2 a3; rw [a1, a2, a3]
  rw [hkt]
  obtain ⟨r1, r2⟩ := rb_I mxI k (by omega) (by unfold mxI; omega) (mbBy m L D k) 0 (colsBy m L D k 10) (by rw [List.drop_zero]; rfl)
  have hdc : (mbBy m L D k).drop (0 + (M.form k).length) = colsBy m L D k 10 ++ [] := by
    refine drop_next (a := M.form k) ?_
    rw [List.drop_zero, List.append_nil]
    rfl
  have hkd : kdB (k : Int) = true := by
    rw [← hkn]
    unfold kdB inR
    simp [hk.1, hk.2]
  obtain ⟨A, hs⟩ := cols_back hm hB (l := mbBy m L D k) ⟨{ zG with k := (k : Int) }, [], [], (0 + (M.form k).length, 0)⟩ rfl ⟨hkn.symm, rfl, rfl, rfl, rfl, rfl, rfl, rfl, rfl, rfl, rfl⟩ hdc 10 (by decide)
  have hx : rdM (mbBy m L D k) = (rCols (mbBy m L D k) k ⟨{ zG with k := (k : Int) }, [], [], (0 + (M.form k).length, 0)⟩ 10, Wi.endErr (mbBy m L D k).length (rCols (mbBy m L D k) k ⟨{ zG with k := (k : Int) }, [], [], (0 + (M.form k).length, 0)⟩ 10).s.1 (rCols (mbBy m L D k) k ⟨{ zG with k := (k : Int) }, [], [], (0 + (M.form k).length, 0)⟩ 10).s.2) := by
    unfold rdM
    rw [r1, r2, if_neg (by simp), if_neg (by simp [hkd])]
  generalize rCols (mbBy m L D k) k ⟨{ zG with k := (k : Int) }, [], [], (0 + (M.form k).length, 0)⟩ 10 = y at A hs hx
  obtain ⟨ym, yL, yD, ys⟩ := y
  have e1 : ym = m := by
    cases ym
    cases hmm : m
    have B := A
    rw [hmm] at B
    have b0 := B.k; have b1 := B.f0; have b2 := B.f1; have b3 := B.f2; have b4 := B.f3; have b5 := B.f4; have b6 := B.f5; have b7 := B.f6; have b8 := B.f7
    simp at b0 b1 b2 b3 b4 b5 b6 b7 b8
    simp [b0, b1, b2, b3, b4, b5, b6, b7, b8]
  have e2 : yL = L := by have := A.f8; simpa using this
  have e3 : yD = D := by have := A.f9; simpa using this
  refine ⟨ys, ?_⟩
  rw [hx, e1, e2, e3]
  have hs' : ys = (0 + (M.form k).length + (colsBy m L D k 10).length, 0) := hs
  rw [hs']
  have hl : (mbBy m L D k).length = 0 + (M.form k).length + (colsBy m L D k 10).length := by unfold mbBy; simp
  rw [hl]
  simp [Wi.endErr]
def WB {α : Type} (by_ : α → List Int) (rd : List Int → Nat × Int → α) (st : List Int → Nat × Int → Nat × Int) : Prop := ∀ (l : List Int) (s : Nat × Int), isB l → (st l s).2 = 0 → s.2 = 0 ∧ l.drop s.1 = by_ (rd l s) ++ l.drop (st l s).1
theorem isB.drop {l : List Int} (h : isB l) (n : Nat) : isB (l.drop n) := fun z hz => h z (List.mem_of_mem_drop hz)
theorem WB.two {α β γ : Type} {a : α → List Int} {b : β → List Int} {ra : List Int → Nat × Int → α} {rb : List Int → Nat × Int → β} {sa sb : List Int → Nat × Int → Nat × Int} (ha : WB a ra sa) (hb : WB b rb sb) (f : α → β → γ) (by_ : γ → List Int) (hf : ∀ x y, by_ (f x y) = a x ++ b y) : WB by_ (fun l s => f (ra l s) (rb l (sa l s))) (fun l s => sb l (sa l s)) := by
  intro l s hB h
  obtain ⟨h1, h2⟩ := hb l (sa l s) hB h
  obtain ⟨h3, h4⟩ := ha l s hB h1
  refine ⟨h3, ?_⟩
  rw [h4, h2, hf, List.append_assoc]
theorem dc_ok {c : Cf} {f : List Int} (h : (dcM c f).2 = 0) : cfB c = true ∧ Wi.opErr f = 0 ∧ (rdM (Wi.opBody f)).2 = 0 ∧ ckM c (rdM (Wi.opBody f)).1.m (rdM (Wi.opBody f)).1.L (rdM (Wi.opBody f)).1.D = 0 ∧ dcM c f = ((rdM (Wi.opBody f)).1, 0) := by
  unfold dcM at h ⊢
  cases h1 : cfB c with
  | false => rw [if_pos h1] at h; cases h
  | true =>
    rw [if_neg (by simp [h1])] at h
    by_cases h2 : Wi.opErr f = 0
    · rw [if_neg (by simp [h2])] at h
      by_cases h3 : (rdM (Wi.opBody f)).2 = 0
      · rw [if_neg (by simp [h3])] at h
        by_cases h4 : ckM c (rdM (Wi.opBody f)).1.m (rdM (Wi.opBody f)).1.L (rdM (Wi.opBody f)).1.D = 0
        · refine ⟨rfl, h2, h3, h4, ?_⟩
          rw [if_neg (by simp), if_neg (by simp [h2]), if_neg (by simp [h3]), if_neg (by simp [h4])]
        · rw [if_pos h4] at h
          exact absurd h h4
      · rw [if_pos h3] at h
        exact absurd h h3
    · rw [if_pos h2] at h
      exact absurd h h2
theorem dc_bad {c : Cf} {f : List Int} (h : ¬ (dcM c f).2 = 0) : (dcM c f).1 = ⟨zG, [], [], (0, 0)⟩ := by
  unfold dcM at h ⊢
  split
  · rfl
  · split
    · rfl
    · split
      · rfl
      · split
        · rfl
        · rename_i h1 h2 h3 h4
          rw [if_neg h1, if_neg h2, if_neg h3, if_neg h4] at h
          exact absurd rfl h
theorem ck_cf {c : Cf} {m : Mg} {L : List En} {D : List (Int × Int)} (h : ckM c m L D = 0) : cfB c = true := by
  unfold ckM at h
  split at h
  · omega
  · rename_i hc
    simpa using hc
theorem dc_back {c : Cf} {m : Mg} {L : List En} {D : List (Int × Int)} (h : ckM c m L D = 0) (hf : m.e.fits) (hL : ∀ e ∈ L, e.fits) (hd : drF m.d) (hD : ∀ d ∈ D, drF d) (hlen : (L.length : Int) ≤ 9223372036854775807) :
    (∃ s, dcM c (enB c m L D) = (⟨m, L, D, s⟩, 0)) ∧ (enB c m L D).length ≤ 32768 ∧ 12 ≤ (enB c m L D).length := by
  obtain ⟨hm, hk1, hk2⟩ := ck_mgF h hf hL hd hD hlen
  have hkt : m.k.toNat < 15 := by omega
  have hlb0 : (mbBy m L D m.k.toNat).length ≤ 28009 := by
    have f1 := form_le (show m.k.toNat < 2 ^ 64 by omega)
    have f2 := colsBy_le hm m.k.toNat 10
    unfold mbBy
    rw [List.length_append]
    omega
  have hby := mbBy_byte hm hkt
  have hen : enB c m L D = M.frame (mbBy m L D m.k.toNat) := by unfold enB; rw [if_pos h]
  obtain ⟨s, hs⟩ := body_back h hm ⟨hk1, hk2⟩
  have e1 := Wi.frame_err (mbBy m L D m.k.toNat) (by omega) hby
  have e2 := Wi.frame_body (mbBy m L D m.k.toNat) (by omega) hby
  have hl : (enB c m L D).length = (mbBy m L D m.k.toNat).length + 12 := by rw [hen, M.frame_length]
  refine ⟨⟨s, ?_⟩, by omega, by omega⟩
  rw [hen]
  unfold dcM
  rw [if_neg (by simp [ck_cf h]), e1, e2, hs]
  simp only
  rw [if_neg (by simp), if_neg (by simp), if_neg (by simp [h])]
def c3 : Cf := ⟨1, 4, 6, false⟩
def rq : Mg := ⟨1, 0, 0, ⟨1, 2, ⟨1, 7, ⟨#[97]⟩⟩⟩, (0, 0, ⟨#[]⟩), 0, 0, 0, (0, 0)⟩
def b13 : List Int := [1, 1, 1, 1, 1, 2, 1, 1, 1, 7, 1, 1, 97]
def cmB : Mg := ⟨5, 1, 0, ⟨0, 0, ⟨0, 0, ⟨#[]⟩⟩⟩, (0, 0, ⟨#[]⟩), 0, 0, 0, (0, 0)⟩
theorem ck_rq : ckM c3 rq [] [] = 0 := by decide
theorem mb_rq : mbBy rq [] [] 1 = b13 := by decide
theorem rd_b13 : rdM b13 = (⟨rq, [], [], (13, 0)⟩, 0) := by rfl
theorem ck_cm : ckM c3 cmB [] [(0, 0), (0, 0), (0, 0)] = 71 := by decide
theorem num7_any (x : Int) (w : World) : Calls Tryd.prog 8 #[.int .i64 x] w fun e w' => e = .returned (.int .i64 x) ∧ w' = w := by
  go_enter Tryd.func8, Tryd.ntmps8
  go_wp2
  go_ret
  exact ⟨rfl, rfl⟩
theorem three7_any (w : World) : Calls Tryd.prog 15 #[] w fun e w' => e = .returned c3.val ∧ Below w.heap.size w w' := by
  go_enter Tryd.func15, Tryd.ntmps15
  go_wp2
  exact bodyPost_ret (v := c3.val) (by simp [results, Tryd.results15, go_sem]; first | done | rfl) rfl ⟨rfl, (Below.refl _ _).alloc (Nat.le_refl _) _⟩
theorem bdEn3 (w : World) : (Instr.build 28 #[(0, .int .i64 1), (1, .int .i64 2), (2, .agg #[.int .i64 1, .int .i64 7, .string ⟨#[97]⟩])]).run Tryd.prog w = .ok (.agg #[.int .i64 1, .int .i64 2, .int .i64 1, .int .i64 7, .string ⟨#[97]⟩]) w := by go_simp
theorem bdRq (w : World) : (Instr.build 38 #[(0, .int .i64 1), (3, .agg #[.int .i64 1, .int .i64 2, .int .i64 1, .int .i64 7, .string ⟨#[97]⟩])]).run Tryd.prog w = .ok (rq.val nilS nilS) w := by
  go_simp
  first | done | rfl
set_option maxRecDepth 100000 in
theorem request7_any (w : World) : Calls Tryd.prog 16 #[] w fun e w' => e = .returned (rq.val nilS nilS) ∧ Below w.heap.size w w' := by
  go_enter Tryd.func16, Tryd.ntmps16
  go_upto_region 0 with fail
  refine wp_region_lit ?_
  refine vl_gen (fun T => T.size = 4) rfl (fun Z0 hz => ?_)
  obtain ⟨w1, hw1⟩ : ∃ w1, w1 = w.alloc (.cells (zG.cs nilS nilS).toArray 38) := ⟨_, rfl⟩
  have M1 : MBox w1 w.heap.size zG nilS nilS := by rw [hw1]; exact MBox.new0 w
  have hB1 : Below w.heap.size w w1 := by rw [hw1]; exact (Below.refl _ _).alloc (Nat.le_refl _) _
  refine vw (.pointer (some ⟨w.heap.size, 0, none⟩)) w1 (want_none rfl) (ex_al rfl (by rw [hw1]; exact alM _)) rfl hz (by decide) (fun Z1 zz kk s0 => ?_)
  clear kk hz hw1
  have hz := zz
  clear zz
  refine wpList_nil ?_
  go_upto_region 1 with fail
  refine wp_region_lit ?_
  refine vl true (.agg #[.int .i64 1, .int .i64 7, .string ⟨#[97]⟩]) (want_none rfl) (fun hc => ex_buildP rfl (by simp only [List.map_toArray, List.map_cons, List.map_nil] <;> rfl) (bdOp 1 7 ⟨#[97]⟩ _)) rfl hz (by decide) (fun Z2 zz kk s1 => ?_)
  replace s0 := kt kk s0
  clear kk hz
  have hz := zz
  clear zz
  refine vl true (.agg #[.int .i64 1, .int .i64 2, .int .i64 1, .int .i64 7, .string ⟨#[97]⟩]) (want_none rfl) (fun hc => ex_buildP rfl (by simp only [List.map_toArray, List.map_cons, List.map_nil, (ev s1 rfl)] <;> rfl) (bdEn3 _)) rfl hz (by decide) (fun Z3 zz kk s2 => ?_)
  replace s0 := kt kk s0
  clear kk hz s1
  have hz := zz
  clear zz
  refine vl true (rq.val nilS nilS) (want_none rfl) (fun hc => ex_buildP rfl (by simp only [List.map_toArray, List.map_cons, List.map_nil, (ev s2 rfl)] <;> rfl) (bdRq _)) rfl hz (by decide) (fun Z4 zz kk s3 => ?_)
  replace s0 := kt kk s0
  clear kk hz s2
  have hz := zz
  clear zz
  refine vs (sets w1 w.heap.size 0 (rq.cs nilS nilS)) (want_none rfl) (ex_st rfl (ev s0 rfl) (ev s3 rfl) (stM M1 rq nilS nilS rfl rfl)) rfl ?_
  have SP := M1.putU rq nilS nilS
  obtain ⟨we, hwe⟩ : ∃ y, y = sets w1 w.heap.size 0 (rq.cs nilS nilS) := ⟨_, rfl⟩
  rw [← hwe] at SP ⊢
  clear hwe
  have hfin : Below w.heap.size w we := hB1.trans (SP.2.below (by have := hB1.size; omega) (Nat.le_refl _))
  refine wpList_nil ?_
  go_wp2
  exact (Bx.mk SP.1.lt SP.1.cell SP.1.free).res rfl s0 Tryd.underlying38 rfl (by kernel_rfl) ⟨rfl, hfin⟩
theorem sl_nil {α : Type} (Y : Lay α) (w : World) : SlY Y w none 0 0 [] := ⟨rfl, Nat.le_refl _, by unfold maxLen; omega, fun _ => ⟨rfl, rfl⟩, fun x hx => .inl rfl⟩
theorem rq_fits : rq.e.fits := ⟨rfl, rfl, rfl, rfl, by show 1 ≤ maxLen; unfold maxLen; omega⟩
theorem b13_byte : ∀ z ∈ b13, 0 ≤ z ∧ z < 256 := by decide
theorem encode_rq (w : World) (hT : Tab w) : Calls Tryd.prog 7 #[c3.val, rq.val nilS nilS] w fun e w' => ∃ a n c, e = .returned (.tuple #[.slice a n c, .int .i64 0]) ∧ Wi.Hs w' a n c (M.frame b13) ∧ Below w.heap.size w w' := by
  refine (encode_any c3 rq none none 0 0 [] [] w hT (sl_nil _ _) (fun e he => by cases he) (sl_nil _ _) rq_fits (by unfold drF; decide) (fun d hd => by cases hd)).mono ?_
  rintro e w' ⟨v, rfl, O, hb⟩
  have he : enB c3 rq [] [] = M.frame b13 := by
    unfold enB
    rw [if_pos ck_rq]
    exact congrArg M.frame mb_rq
  rw [he] at O
  obtain ⟨a, n, c, rfl, hs, _⟩ := O.hs (M.frame_byte _ b13_byte)
  exact ⟨a, n, c, by rw [ck_rq], hs, hb⟩
theorem decode_rq (a : Option Addr) (n c : Nat) (w : World) (hH : Wi.Hs w a n c (M.frame b13)) (hT : Tab w) : Calls Tryd.prog 10 #[c3.val, .slice a n c] w fun e w' => ∃ sa sc ta tc, e = .returned (.tuple #[rq.val (.slice sa 0 sc) (.slice ta 0 tc), .int .i64 0]) ∧ SlY yE w' sa 0 sc [] ∧ SlY yD w' ta 0 tc [] ∧ Below w.heap.size w w' := by
  have hl : (M.frame b13).length ≤ 100 := by rw [M.frame_length]; decide
  refine (decode_any c3 a n c (M.frame b13) w hH (by have := hH.len; omega) hT).mono ?_
  have he : dcM c3 (M.frame b13) = (⟨rq, [], [], (13, 0)⟩, 0) := by
    have h1 := Wi.frame_err b13 (by decide) b13_byte
    have h2 := Wi.frame_body b13 (by decide) b13_byte
    unfold dcM
    rw [h2, rd_b13]
    simp only [h1, ck_rq]
    rfl
  rw [he]
  rintro e w' ⟨s, t, rfl, O1, O2, hb⟩
  obtain ⟨sa, sc, rfl, _⟩ := O1.form
  obtain ⟨ta, tc, rfl, _⟩ := O2.form
  exact ⟨sa, sc, ta, tc, rfl, O1.sl' kE, O2.sl' kD, hb⟩
theorem check_cm (g : Nat) (w : World) (hT : Tab w) (h : SlY yD w (some ⟨g, 0, none⟩) 3 3 [(0, 0), (0, 0), (0, 0)]) : Calls Tryd.prog 9 #[c3.val, cmB.val nilS (.slice (some ⟨g, 0, none⟩) 3 3)] w fun e w' => e = .returned (.int .i64 71) ∧ Below w.heap.size w w' := by
  refine (checkM_any c3 cmB none (some ⟨g, 0, none⟩) 0 3 [] [(0, 0), (0, 0), (0, 0)] w hT (sl_nil _ _) (fun e he => by cases he) h ⟨rfl, rfl, rfl, rfl, by show 0 ≤ maxLen; omega⟩).mono ?_
  rw [ck_cm]
  exact fun e w' h => h
theorem same_rq (sa ta : Option Addr) (sc tc : Nat) (w : World) (h1 : SlY yE w sa 0 sc []) (h2 : SlY yD w ta 0 tc []) : Calls Tryd.prog 11 #[rq.val (.slice sa 0 sc) (.slice ta 0 tc), rq.val nilS nilS] w fun e w' => e = .returned (.bool true) ∧ Below w.heap.size w w' := by
  refine (samemsg_any rq rq sa ta none none 0 0 0 0 sc tc 0 0 [] [] [] [] w h1 h2 (sl_nil _ _) (sl_nil _ _)).mono ?_
  rw [(sameM_iff rq rq [] [] [] []).2 ⟨rfl, rfl, rfl⟩]
  exact fun e w' h => h
theorem v_cut {c : Code} {Q : Exit → Act → World → Prop} {T : Array Value} {w : World} (J : Array Value → World → Prop) (h : c.wp Tryd.prog (Exit.then (fun a w' => ∃ T', a = ⟨T', []⟩ ∧ J T' w') Q) ⟨T, []⟩ w) (hk : ∀ T' w', J T' w' → Q .normal ⟨T', []⟩ w') : c.wp Tryd.prog Q ⟨T, []⟩ w := by
  refine Code.wp_mono (fun e a' w' h => ?_) h
  cases e with
  | normal =>
    obtain ⟨T', rfl, hJ⟩ := h
    exact hk T' w' hJ
  | _ => exact h
theorem want_t {ops : Array Oper} {T : Array Value} {o : Oper} {k j : Nat} (hg : o.guard = some (k, true)) (hk : (ops[k]?).bind (·.dst) = some j) (hs : T[j]? = some (gw true (.bool true))) : Region.wanted o (yielded ops T) = true := want_g hg hk hs
theorem ex_andT {o : Oper} {T : Array Value} {df : List Deferred} {j x : Nat} {w : World} (ho : o.op = .pick (.tmp j) (.tmp x) (.const (.bool false))) (hj : T[j]? = some (gw true (.bool true))) (hy : T[x]? = some (gw true (.bool true))) : (execOp (⟨T, df⟩ : Act).eval o).run Tryd.prog w = .ok (.value (.bool true)) w := ex_and (c := true) (b := true) (z := true) ho hj hy rfl
theorem eq00 (x y : Operand) (w : World) : (do eqGuard .eql 3 x y (.int .i64 0) (.int .i64 0); binOp .eql 3 (.int .i64 0) (.int .i64 0) : Sem Value).run Tryd.prog w = .ok (.bool true) w := eqlC x y 0 0 w
theorem eq71 (x y : Operand) (w : World) : (do eqGuard .eql 3 x y (.int .i64 71) (.int .i64 71); binOp .eql 3 (.int .i64 71) (.int .i64 71) : Sem Value).run Tryd.prog w = .ok (.bool true) w := eqlC x y 71 71 w
theorem vh_val {ops : Array Oper} {o : Oper} {T : Array Value} {df : List Deferred} {w : World} {Q : Exit → Act → World → Prop} {S : World → Prop} {fuel d n : Nat} {listed : Array Bool} (i : Nat) (V : Value) (w' : World) (hi : ops[i]? = some o) (hr : Region.ready .any ops listed = [i])
    (hw : Region.wanted o (yielded ops T) = true) (he : (execOp (⟨T, df⟩ : Act).eval o).run Tryd.prog w = .ok (.value V) w') (hd : o.dst = some d) (hz : T.size = n) (hn : d < n) (hS : S w')
    (hk : ∀ T' : Array Value, T'.size = n → (∀ j, j ≠ d → T'[j]? = T[j]?) → T'[d]? = some (gw true V) → VH ops Q S fuel (listed.setIfInBounds i true) ⟨T', df⟩ w') : VH ops Q S (fuel + 1) listed ⟨T, df⟩ w := by
  refine ⟨wpAnyH_all hr (by simp) (fun j hj => ?_)⟩
  obtain rfl : j = i := by simpa using hj
  unfold wpOp
  rw [hi]
  simp only [hw, if_true]
  refine .inl ?_
  unfold Oper.wp
  rw [he, Oper.upon_value]
  refine ⟨hS, ?_⟩
  rw [hd]
  exact (hk (T.setIfInBounds d V) (by simp [hz]) (fun i hi => at_set_ne _ hi) (at_set _ (by omega))).out
theorem vh_two {ops : Array Oper} {o o2 : Oper} {T : Array Value} {df : List Deferred} {w : World} {Q : Exit → Act → World → Prop} {S : World → Prop} {fuel d d2 n : Nat} {listed : Array Bool} (i j : Nat) {fid : FuncId} {args : Array Value} {R : Ending → World → Prop} (hr : Region.ready .any ops listed = [i, j]) (hi : ops[i]? = some o) (hj : ops[j]? = some o2)
    (hw : Region.wanted o (yielded ops T) = true) (he : (execOp (⟨T, df⟩ : Act).eval o).run Tryd.prog w = .ok (.enter fid args) w) (hc : Calls Tryd.prog fid args w R) (hd : o.dst = some d) (hz : T.size = n) (hn : d < n)
    (hk : ∀ (e : Ending) (w' : World), R e w' → ∃ V, e = .returned V ∧ S w' ∧ ∀ T' : Array Value, T'.size = n → (∀ j, j ≠ d → T'[j]? = T[j]?) → T'[d]? = some (gw true V) → VH ops Q S fuel (listed.setIfInBounds i true) ⟨T', df⟩ w')
    (V : Value) (w2 : World) (hw2 : Region.wanted o2 (yielded ops T) = true) (he2 : (execOp (⟨T, df⟩ : Act).eval o2).run Tryd.prog w = .ok (.value V) w2) (hd2 : o2.dst = some d2) (hn2 : d2 < n) (hS2 : S w2)
    (hk2 : ∀ T' : Array Value, T'.size = n → (∀ j, j ≠ d2 → T'[j]? = T[j]?) → T'[d2]? = some (gw true V) → VH ops Q S fuel (listed.setIfInBounds j true) ⟨T', df⟩ w2) : VH ops Q S (fuel + 1) listed ⟨T, df⟩ w := by
  refine ⟨wpAnyH_all hr (by simp) (fun k hkm => ?_)⟩
  have hkm : k = i ∨ k = j := by simpa using hkm
  rcases hkm with rfl | rfl
  · unfold wpOp
    rw [hi]
    simp only [hw, if_true]
    refine .inl ?_
    unfold Oper.wp
    rw [he, Oper.upon_enter]
    refine hc.mono ?_
    intro e w' hR
    obtain ⟨V, rfl, hS, hk'⟩ := hk e w' hR
    refine ⟨hS, ?_⟩
    rw [hd]
    exact (hk' (T.setIfInBounds d V) (by simp [hz]) (fun i hi => at_set_ne _ hi) (at_set _ (by omega))).out
  · unfold wpOp
    rw [hj]
    simp only [hw2, if_true]
    refine .inl ?_
    unfold Oper.wp
    rw [he2, Oper.upon_value]
    refine ⟨hS2, ?_⟩
    rw [hd2]
    exact (hk2 (T.setIfInBounds d2 V) (by simp [hz]) (fun i hi => at_set_ne _ hi) (at_set _ (by omega))).out
theorem ex_mk {o : Oper} {ρ : Operand → Value} {s : TypeId} {x y : Operand} {X Y V : Value} {w w' : World} (ho : o.op = .makeSlice s x y) (hx : ρ x = X) (hy : ρ y = Y) (hr : (Instr.makeSlice s X Y).run Tryd.prog w = .ok V w') : (execOp ρ o).run Tryd.prog w = .ok (.value V) w' := by
  unfold execOp
  simp only [ho, hx, hy, Sem.run_bind, hr, Result.andThen_ok]
  rfl
def zV3 : Obj := .cells #[.int .u64 0, .int .u64 0, .int .u64 0, .int .u64 0, .int .u64 0, .int .u64 0] 33
theorem mk3 (w : World) : (Instr.makeSlice 36 (.int .i64 3) (.int .i64 3)).run Tryd.prog w = .ok (.slice (some ⟨w.heap.size, 0, none⟩) 3 3) (w.alloc zV3) := by
  have hinfo : (Tryd.prog.info? 33).map (fun i => (i.zero, i.size, i.bytes)) = some (some (.agg #[.int .u64 0, .int .u64 0]), 2, 16) := by kernel_rfl
  obtain ⟨i0, hi, hz0, hz1, hz2⟩ := info_parts hinfo
  have hr := run_make (P := Tryd.prog) w 36 33 i0 (.agg #[.int .u64 0, .int .u64 0]) Tryd.underlying36 hi hz0 .i64 .i64 3 3 (by omega) (Int.le_refl _) (by rw [hz2]; omega) (by omega)
  rw [hz1] at hr
  have hm : madeCells (Value.agg #[Value.int IntKind.u64 0, Value.int IntKind.u64 0]).cells (Int.toNat 3 * 2) = #[.int .u64 0, .int .u64 0, .int .u64 0, .int .u64 0, .int .u64 0, .int .u64 0] := by kernel_rfl
  rw [hm] at hr
  exact hr
theorem sl3 (w : World) : SlY yD (w.alloc zV3) (some ⟨w.heap.size, 0, none⟩) 3 3 [(0, 0), (0, 0), (0, 0)] := sl_lit kD w [(0, 0), (0, 0), (0, 0)] 33 (by unfold maxLen; decide)
theorem bdCm (g : Nat) (w : World) : (Instr.build 38 #[(0, .int .i64 5), (1, .int .i64 1), (10, .slice (some ⟨g, 0, none⟩) 3 3)]).run Tryd.prog w = .ok (cmB.val nilS (.slice (some ⟨g, 0, none⟩) 3 3)) w := by
  go_simp
  first | done | rfl
set_option maxRecDepth 100000 in
theorem bslice13 (W : World) : (Instr.buildSlice 39 13 #[(0, .int .u8 1), (1, .int .u8 1), (2, .int .u8 1), (3, .int .u8 1), (4, .int .u8 1), (5, .int .u8 2), (6, .int .u8 1), (7, .int .u8 1), (8, .int .u8 1), (9, .int .u8 7), (10, .int .u8 1), (11, .int .u8 1), (12, .int .u8 97)]).run Tryd.prog W = .ok (.slice (some ⟨W.heap.size, 0, none⟩) 13 13) (W.alloc (.cells (b13.map (Value.int .u8)).toArray 5)) := by
  go_simp
  first | done | rfl
theorem hs13 (W : World) : Wi.Hs (W.alloc (.cells (b13.map (Value.int .u8)).toArray 5)) (some ⟨W.heap.size, 0, none⟩) 13 13 b13 :=
  ⟨rfl, by decide, fun x hx i hi => by
    obtain rfl := (Option.some.inj hx)
    rw [Addr.add_lit, Nat.zero_add]
    refine cell_box _ _ _ _ _ ?_
    simp [List.getD_eq_getElem?_getD, List.getElem?_eq_getElem hi], (fun h => by cases h), b13_byte⟩
theorem same_fr (a a' : Option Addr) (n c n' c' : Nat) (w : World) (h : Wi.Hs w a n c (M.frame b13)) (h' : Wi.Hs w a' n' c' (M.frame b13)) : Calls Tryd.prog 13 #[.slice a n c, .slice a' n' c'] w fun e w' => e = .returned (.bool true) ∧ w' = w := by
  refine (Wi.same_any a a' n c n' c' _ _ w h h').mono ?_
  rintro e w' ⟨rfl, rfl⟩
  exact ⟨by rw [decide_eq_true rfl], rfl⟩
set_option maxRecDepth 100000 in
set_option maxHeartbeats 4000000 in
theorem alive7 (w : World) (hT : Tab w) : Calls Tryd.prog 6 #[] w fun e w' => e = .returned (.bool true) ∧ Below w.heap.size w w' := by
  go_enter Tryd.func6, Tryd.ntmps6
  go_upto_region 1 with fail
  refine wp_region_lit ?_
  refine vl_gen (fun T => T.size = 52) rfl (fun T0 hz => ?_)
  refine vcallP (want_none rfl) (ex_call (args := #[]) rfl (by simp) rfl) (three7_any w) rfl hz (by decide) ?_
  rintro e w1 ⟨rfl, hB1⟩
  refine ⟨_, rfl, fun A1_1 zz kk s9x => ?_⟩
  clear kk hz
  have hz := zz
  have s9 := s9x
  clear zz s9x
  refine vcallP (want_none rfl) (ex_call (args := #[]) rfl (by simp) rfl) (request7_any w1) rfl hz (by decide) ?_
  rintro e w2 ⟨rfl, hb2⟩
  refine ⟨_, rfl, fun A1_2 zz kk s10x => ?_⟩
  have hB2 := hB1.trans (hb2.mono hB1.size)
  clear hb2 hB1
  replace s9 := kt kk s9
  clear kk hz
  have hz := zz
  have s10 := s10x
  clear zz s10x A1_1
  refine vcallP (want_none rfl) (ex_call rfl (by simp only [List.map_toArray, List.map_cons, List.map_nil, (ev s9 rfl), (ev s10 rfl), evc] <;> rfl) rfl) (encode_rq w2 (hT.later hB2 hT.lt)) rfl hz (by decide) ?_
  rintro e w3 ⟨af, nf, cf, rfl, hsF, hb3⟩
  refine ⟨_, rfl, fun A1_3 zz kk s11x => ?_⟩
  have hB3 := hB2.trans (hb3.mono hB2.size)
  clear hb3 hB2
  clear kk hz s9 s10
  have hz := zz
  have s11 := s11x
  clear zz s11x A1_2
  refine vt _ (ex_move rfl (ev s11 rfl)) hz (fun A1_4 zz kk s8x => ?_)
  clear kk hz s11
  have hz := zz
  have s8 := s8x
  clear zz s8x A1_3
  refine vt (.slice af nf cf) (ex_ext rfl (ev s8 rfl) rfl) hz (fun A1_5 zz kk s12x => ?_)
  replace s8 := kt kk s8
  clear kk hz
  have hz := zz
  have s12 := s12x
  clear zz s12x A1_4
  refine vt (.int .i64 0) (ex_ext rfl (ev s8 rfl) rfl) hz (fun A1_6 zz kk s13x => ?_)
  replace s12 := kt kk s12
  clear kk hz s8
  have hz := zz
  have s13 := s13x
  clear zz s13x A1_5
  refine vt _ (ex_assign rfl (ev s12 rfl)) hz (fun A1_7 zz kk s1x => ?_)
  replace s13 := kt kk s13
  clear kk hz s12
  have hz := zz
  have s1 := s1x
  clear zz s1x A1_6
  refine vt _ (ex_assign rfl (ev s13 rfl)) hz (fun A1_8 zz kk s2x => ?_)
  replace s1 := kt kk s1
  clear kk hz s13
  have hz := zz
  have s2 := s2x
  clear zz s2x A1_7
  refine wpList_nil ?_
  go_upto_region 2 with fail
  refine wp_region_lit ?_
  obtain ⟨wb, hwb⟩ : ∃ y, y = w3.alloc (.cells (b13.map (Value.int .u8)).toArray 5) := ⟨_, rfl⟩
  have hbb : Below w3.heap.size w3 wb := by rw [hwb]; exact (Below.refl _ _).alloc (Nat.le_refl _) _
  have hSb : Wi.Hs wb (some ⟨w3.heap.size, 0, none⟩) 13 13 b13 := by rw [hwb]; exact hs13 _
  refine vw (.slice (some ⟨w3.heap.size, 0, none⟩) 13 13) wb (want_none rfl) (ex_bs rfl (by simp only [List.map_toArray, List.map_cons, List.map_nil] <;> rfl) (by rw [hwb]; exact bslice13 _)) rfl hz (by decide) (fun A2_1 zz kk s15x => ?_)
  replace s1 := kt kk s1
  replace s2 := kt kk s2
  clear kk hz
  have hz := zz
  have s15 := s15x
  clear zz s15x
  clear hwb
  refine vcallP (want_none rfl) (ex_call rfl (by simp only [List.map_toArray, List.map_cons, List.map_nil, (ev s15 rfl), evc] <;> rfl) rfl) (Wi.refseal_ok _ 13 13 b13 wb hSb (by decide)) rfl hz (by decide) ?_
  rintro e w4 ⟨vw_, rfl, Ow, _, hb4⟩; obtain ⟨aw, nw, cw, rfl, hsW, _⟩ := Ow.hs (M.frame_byte _ b13_byte)
  refine ⟨_, rfl, fun A2_2 zz kk s16x => ?_⟩
  have hsF4 := (hsF.later hbb).later hb4
  have hBb := hB3.trans (hbb.mono hB3.size)
  have hB4 := hBb.trans (hb4.mono hBb.size)
  clear hb4 hBb hbb hB3 hsF hSb Ow
  replace s1 := kt kk s1
  replace s2 := kt kk s2
  clear kk hz s15
  have hz := zz
  have s16 := s16x
  clear zz s16x A2_1
  refine vt _ (ex_move rfl (ev s16 rfl)) hz (fun A2_3 zz kk s14x => ?_)
  replace s1 := kt kk s1
  replace s2 := kt kk s2
  clear kk hz s16
  have hz := zz
  have s14 := s14x
  clear zz s14x A2_2
  refine vt (.slice aw nw cw) (ex_ext rfl (ev s14 rfl) rfl) hz (fun A2_4 zz kk s17x => ?_)
  replace s1 := kt kk s1
  replace s2 := kt kk s2
  replace s14 := kt kk s14
  clear kk hz
  have hz := zz
  have s17 := s17x
  clear zz s17x A2_3
  refine vt (.int .i64 0) (ex_ext rfl (ev s14 rfl) rfl) hz (fun A2_5 zz kk s18x => ?_)
  replace s1 := kt kk s1
  replace s2 := kt kk s2
  replace s17 := kt kk s17
  clear kk hz s14
  have hz := zz
  have s18 := s18x
  clear zz s18x A2_4
  refine vt _ (ex_assign rfl (ev s17 rfl)) hz (fun A2_6 zz kk s3x => ?_)
  replace s1 := kt kk s1
  replace s2 := kt kk s2
  replace s18 := kt kk s18
  clear kk hz s17
  have hz := zz
  have s3 := s3x
  clear zz s3x A2_5
  refine vt _ (ex_assign rfl (ev s18 rfl)) hz (fun A2_7 zz kk s4x => ?_)
  replace s1 := kt kk s1
  replace s2 := kt kk s2
  replace s3 := kt kk s3
  clear kk hz s18
  have hz := zz
  have s4 := s4x
  clear zz s4x A2_6
  refine wpList_nil ?_
  clear s4
  go_upto_region 3 with fail
  refine wp_region_lit ?_
  refine vcallP (want_none rfl) (ex_call (args := #[]) rfl (by simp) rfl) (three7_any w4) rfl hz (by decide) ?_
  rintro e w5 ⟨rfl, hb5⟩
  refine ⟨_, rfl, fun A3_1 zz kk s20x => ?_⟩
  have hB5 := hB4.trans (hb5.mono hB4.size)
  have hsF5 := hsF4.later hb5
  have hsW5 := hsW.later hb5
  clear hb5 hB4 hsF4 hsW
  replace s1 := kt kk s1
  replace s2 := kt kk s2
  replace s3 := kt kk s3
  clear kk hz
  have hz := zz
  have s20 := s20x
  clear zz s20x
  refine vt _ (ex_move rfl (ev s3 rfl)) hz (fun A3_2 zz kk s21x => ?_)
  replace s1 := kt kk s1
  replace s2 := kt kk s2
  replace s3 := kt kk s3
  replace s20 := kt kk s20
  clear kk hz
  have hz := zz
  have s21 := s21x
  clear zz s21x A3_1
  refine vcallP (want_none rfl) (ex_call rfl (by simp only [List.map_toArray, List.map_cons, List.map_nil, (ev s20 rfl), (ev s21 rfl), evc] <;> rfl) rfl) (decode_rq aw nw cw w5 hsW5 (hT.later hB5 hT.lt)) rfl hz (by decide) ?_
  rintro e w6 ⟨sa, sc, ta, tc, rfl, hsl1, hsl2, hb6⟩
  refine ⟨_, rfl, fun A3_3 zz kk s22x => ?_⟩
  have hB6 := hB5.trans (hb6.mono hB5.size)
  have hsF6 := hsF5.later hb6
  have hsW6 := hsW5.later hb6
  clear hb6 hB5 hsF5 hsW5
  obtain ⟨q, hq⟩ : ∃ q, q = w6.heap.size := ⟨_, rfl⟩
  obtain ⟨w7, hw7⟩ : ∃ y, y = w6.alloc (.cells (zG.cs nilS nilS).toArray 38) := ⟨_, rfl⟩
  have hb7 : Below w6.heap.size w6 w7 := by rw [hw7]; exact (Below.refl _ _).alloc (Nat.le_refl _) _
  have M7 : MBox w7 q zG nilS nilS := by rw [hw7, hq]; exact MBox.new0 w6
  replace s1 := kt kk s1
  replace s2 := kt kk s2
  replace s3 := kt kk s3
  clear kk hz s20 s21
  have hz := zz
  have s22 := s22x
  clear zz s22x A3_2
  refine vt _ (ex_move rfl (ev s22 rfl)) hz (fun A3_4 zz kk s19x => ?_)
  replace s1 := kt kk s1
  replace s2 := kt kk s2
  replace s3 := kt kk s3
  clear kk hz s22
  have hz := zz
  have s19 := s19x
  clear zz s19x A3_3
  refine vt (rq.val (.slice sa 0 sc) (.slice ta 0 tc)) (ex_ext rfl (ev s19 rfl) rfl) hz (fun A3_5 zz kk s23x => ?_)
  replace s1 := kt kk s1
  replace s2 := kt kk s2
  replace s3 := kt kk s3
  replace s19 := kt kk s19
  clear kk hz
  have hz := zz
  have s23 := s23x
  clear zz s23x A3_4
  refine vt (.int .i64 0) (ex_ext rfl (ev s19 rfl) rfl) hz (fun A3_6 zz kk s24x => ?_)
  replace s1 := kt kk s1
  replace s2 := kt kk s2
  replace s3 := kt kk s3
  replace s23 := kt kk s23
  clear kk hz s19
  have hz := zz
  have s24 := s24x
  clear zz s24x A3_5
  refine vw (.pointer (some ⟨q, 0, none⟩)) w7 (want_none rfl) (ex_al rfl (by rw [hw7, hq]; exact alM _)) rfl hz (by decide) (fun A3_7 zz kk s5x => ?_)
  replace s1 := kt kk s1
  replace s2 := kt kk s2
  replace s3 := kt kk s3
  replace s23 := kt kk s23
  replace s24 := kt kk s24
  clear kk hz
  have hz := zz
  have s5 := s5x
  clear zz s5x A3_6
  refine vs (sets w7 q 0 (rq.cs (.slice sa 0 sc) (.slice ta 0 tc))) (want_none rfl) (ex_st rfl (ev s5 rfl) (ev s23 rfl) (stM M7 rq (.slice sa 0 sc) (.slice ta 0 tc) rfl rfl)) rfl ?_
  have SP := M7.putU rq (.slice sa 0 sc) (.slice ta 0 tc)
  obtain ⟨w8, hw8⟩ : ∃ y, y = sets w7 q 0 (rq.cs (.slice sa 0 sc) (.slice ta 0 tc)) := ⟨_, rfl⟩
  rw [← hw8] at SP ⊢
  clear hw8 hw7
  have hb8 : Below w6.heap.size w6 w8 := hb7.trans (SP.2.below hb7.size (by omega))
  have hB8 := hB6.trans (hb8.mono hB6.size)
  have hsF8 := hsF6.later hb8
  have hsW8 := hsW6.later hb8
  have hl1 := hsl1.later hb8
  have hl2 := hsl2.later hb8
  have M8 := SP.1
  have hT8 := hT.later hB8 hT.lt
  clear SP hb8 hb7 M7 hB6 hsF6 hsW6 hsl1 hsl2
  refine vt _ (ex_assign rfl (ev s24 rfl)) hz (fun A3_8 zz kk s6x => ?_)
  replace s1 := kt kk s1
  replace s2 := kt kk s2
  replace s3 := kt kk s3
  replace s5 := kt kk s5
  clear kk hz s23 s24
  have hz := zz
  have s6 := s6x
  clear zz s6x A3_7
  refine wpList_nil ?_
  go_upto_region 4 with fail
  refine v_cut (fun T v => T.size = 52 ∧ T[1]? = some (gw true (.slice af nf cf)) ∧ T[2]? = some (gw true (.int .i64 0)) ∧ T[3]? = some (gw true (.slice aw nw cw)) ∧ T[5]? = some (gw true (.pointer (some ⟨q, 0, none⟩))) ∧ T[6]? = some (gw true (.int .i64 0)) ∧ T[7]? = some (gw true (.int .i64 71)) ∧ Below w8.heap.size w8 v) ?_ ?_
  rotate_left
  · rintro T4 w9 ⟨hz, s1, s2, s3, s5, s6, s7, hb9⟩
    have M9 := M8.bel hb9
    have hsF9 := hsF8.later hb9
    have hsW9 := hsW8.later hb9
    have k1 := hl1.later hb9
    have k2 := hl2.later hb9
    have hB9 := hB8.trans (hb9.mono hB8.size)
    clear hb9 hsF8 hsW8 hl1 hl2 hB8 hT8 M8
    go_upto_region 5 with fail
    refine vh_start (fun v => Below w9.heap.size w9 v) (by kernel_rfl) ?_
    have hS : Below w9.heap.size w9 w9.drew := (Below.refl _ _).drew
    refine vh_take 0 true (.int .i64 0) rfl (by kernel_rfl) (by kernel_rfl) (by kernel_rfl) (want_none rfl) (fun hc v hv => ex_move rfl (ev s2 rfl)) rfl hz (by decide) hS (fun A5_1 zz kk s29x => ?_)
    replace s1 := kt kk s1
    replace s3 := kt kk s3
    replace s5 := kt kk s5
    replace s6 := kt kk s6
    replace s7 := kt kk s7
    clear kk hz s2
    have hz := zz
    have s29 := s29x
    clear zz s29x
    refine vh_call 1 rfl (by kernel_rfl) (want_none rfl) (ex_call rfl (by simp only [List.map_toArray, List.map_cons, List.map_nil, (ev s29 rfl), evc] <;> rfl) rfl) (num7_any 0 _) rfl hz (by decide) ?_
    rintro e y1 ⟨rfl, rfl⟩
    refine ⟨_, rfl, hS, fun A5_2 zz kk s30x => ?_⟩
    replace s1 := kt kk s1
    replace s3 := kt kk s3
    replace s5 := kt kk s5
    replace s6 := kt kk s6
    replace s7 := kt kk s7
    clear kk hz s29
    have hz := zz
    have s30 := s30x
    clear zz s30x A5_1
    refine vh_take 2 true (.bool true) rfl (by kernel_rfl) (by kernel_rfl) (by kernel_rfl) (want_none rfl) (fun hc v hv => ex_bin rfl (ev s30 rfl) rfl (eq00 _ _ _)) rfl hz (by decide) hS (fun A5_3 zz kk s31x => ?_)
    replace s1 := kt kk s1
    replace s3 := kt kk s3
    replace s5 := kt kk s5
    replace s6 := kt kk s6
    replace s7 := kt kk s7
    clear kk hz s30
    have hz := zz
    have s31 := s31x
    clear zz s31x A5_2
    refine vh_take 3 true (.bool true) rfl (by kernel_rfl) (by kernel_rfl) (by kernel_rfl) (want_none rfl) (fun hc v hv => ex_move rfl (ev s31 rfl)) rfl hz (by decide) hS (fun A5_4 zz kk s32x => ?_)
    replace s1 := kt kk s1
    replace s3 := kt kk s3
    replace s5 := kt kk s5
    replace s6 := kt kk s6
    replace s7 := kt kk s7
    clear kk hz s31
    have hz := zz
    have s32 := s32x
    clear zz s32x A5_3
    refine vh_take 4 true (.slice af nf cf) rfl (by kernel_rfl) (by kernel_rfl) (by kernel_rfl) (want_t rfl rfl s32) (fun hc v hv => ex_move rfl (ev s1 rfl)) rfl hz (by decide) hS (fun A5_5 zz kk s33x => ?_)
    replace s3 := kt kk s3
    replace s5 := kt kk s5
    replace s6 := kt kk s6
    replace s7 := kt kk s7
    replace s32 := kt kk s32
    clear kk hz s1
    have hz := zz
    have s33 := s33x
    clear zz s33x A5_4
    refine vh_take 5 true (.slice aw nw cw) rfl (by kernel_rfl) (by kernel_rfl) (by kernel_rfl) (want_t rfl rfl s32) (fun hc v hv => ex_move rfl (ev s3 rfl)) rfl hz (by decide) hS (fun A5_6 zz kk s34x => ?_)
    replace s5 := kt kk s5
    replace s6 := kt kk s6
    replace s7 := kt kk s7
    replace s32 := kt kk s32
    replace s33 := kt kk s33
    clear kk hz s3
    have hz := zz
    have s34 := s34x
    clear zz s34x A5_5
    refine vh_call 6 rfl (by kernel_rfl) (want_t rfl rfl s32) (ex_call rfl (by simp only [List.map_toArray, List.map_cons, List.map_nil, (ev s33 rfl), (ev s34 rfl), evc] <;> rfl) rfl) (same_fr af aw nf cf nw cw _ (hsF9.later hS) (hsW9.later hS)) rfl hz (by decide) ?_
    rintro e y2 ⟨rfl, rfl⟩
    refine ⟨_, rfl, hS, fun A5_7 zz kk s35x => ?_⟩
    replace s5 := kt kk s5
    replace s6 := kt kk s6
    replace s7 := kt kk s7
    replace s32 := kt kk s32
    clear kk hz s33 s34
    have hz := zz
    have s35 := s35x
    clear zz s35x A5_6
    refine vh_take 7 true (.bool true) rfl (by kernel_rfl) (by kernel_rfl) (by kernel_rfl) (want_none rfl) (fun hc v hv => ex_andT rfl s32 s35) rfl hz (by decide) hS (fun A5_8 zz kk s36x => ?_)
    replace s5 := kt kk s5
    replace s6 := kt kk s6
    replace s7 := kt kk s7
    clear kk hz s32 s35
    have hz := zz
    have s36 := s36x
    clear zz s36x A5_7
    refine vh_take 8 true (.bool true) rfl (by kernel_rfl) (by kernel_rfl) (by kernel_rfl) (want_none rfl) (fun hc v hv => ex_move rfl (ev s36 rfl)) rfl hz (by decide) hS (fun A5_9 zz kk s37x => ?_)
    replace s5 := kt kk s5
    replace s6 := kt kk s6
    replace s7 := kt kk s7
    clear kk hz s36
    have hz := zz
    have s37 := s37x
    clear zz s37x A5_8
    refine vh_take 9 true (.int .i64 0) rfl (by kernel_rfl) (by kernel_rfl) (by kernel_rfl) (want_t rfl rfl s37) (fun hc v hv => ex_move rfl (ev s6 rfl)) rfl hz (by decide) hS (fun A5_10 zz kk s38x => ?_)
    replace s5 := kt kk s5
    replace s7 := kt kk s7
    replace s37 := kt kk s37
    clear kk hz s6
    have hz := zz
    have s38 := s38x
    clear zz s38x A5_9
    refine vh_call 10 rfl (by kernel_rfl) (want_t rfl rfl s37) (ex_call rfl (by simp only [List.map_toArray, List.map_cons, List.map_nil, (ev s38 rfl), evc] <;> rfl) rfl) (num7_any 0 _) rfl hz (by decide) ?_
    rintro e y3 ⟨rfl, rfl⟩
    refine ⟨_, rfl, hS, fun A5_11 zz kk s39x => ?_⟩
    replace s5 := kt kk s5
    replace s7 := kt kk s7
    replace s37 := kt kk s37
    clear kk hz s38
    have hz := zz
    have s39 := s39x
    clear zz s39x A5_10
    refine vh_take 11 true (.bool true) rfl (by kernel_rfl) (by kernel_rfl) (by kernel_rfl) (want_t rfl rfl s37) (fun hc v hv => ex_bin rfl (ev s39 rfl) rfl (eq00 _ _ _)) rfl hz (by decide) hS (fun A5_12 zz kk s40x => ?_)
    replace s5 := kt kk s5
    replace s7 := kt kk s7
    replace s37 := kt kk s37
    clear kk hz s39
    have hz := zz
    have s40 := s40x
    clear zz s40x A5_11
    refine vh_take 12 true (.bool true) rfl (by kernel_rfl) (by kernel_rfl) (by kernel_rfl) (want_none rfl) (fun hc v hv => ex_andT rfl s37 s40) rfl hz (by decide) hS (fun A5_13 zz kk s41x => ?_)
    replace s5 := kt kk s5
    replace s7 := kt kk s7
    clear kk hz s37 s40
    have hz := zz
    have s41 := s41x
    clear zz s41x A5_12
    refine vh_take 13 true (.bool true) rfl (by kernel_rfl) (by kernel_rfl) (by kernel_rfl) (want_none rfl) (fun hc v hv => ex_move rfl (ev s41 rfl)) rfl hz (by decide) hS (fun A5_14 zz kk s42x => ?_)
    replace s5 := kt kk s5
    replace s7 := kt kk s7
    clear kk hz s41
    have hz := zz
    have s42 := s42x
    clear zz s42x A5_13
    refine vh_take 14 true (rq.val (.slice sa 0 sc) (.slice ta 0 tc)) rfl (by kernel_rfl) (by kernel_rfl) (by kernel_rfl) (want_t rfl rfl s42) (fun hc v hv => ex_ld rfl (ev s5 rfl) ((M9.bel hv).ldAll)) rfl hz (by decide) hS (fun A5_15 zz kk s43x => ?_)
    replace s7 := kt kk s7
    replace s42 := kt kk s42
    clear kk hz s5
    have hz := zz
    have s43 := s43x
    clear zz s43x A5_14
    refine vh_call 15 rfl (by kernel_rfl) (want_t rfl rfl s42) (ex_call (args := #[]) rfl (by simp) rfl) (request7_any _) rfl hz (by decide) ?_
    rintro e y4 ⟨rfl, hb4⟩
    refine ⟨_, rfl, (hS.trans (hb4.mono hS.size)), fun A5_16 zz kk s44x => ?_⟩
    replace hS := hS.trans (hb4.mono hS.size)
    clear hb4
    replace s7 := kt kk s7
    replace s42 := kt kk s42
    replace s43 := kt kk s43
    clear kk hz
    have hz := zz
    have s44 := s44x
    clear zz s44x A5_15
    refine vh_call 16 rfl (by kernel_rfl) (want_t rfl rfl s42) (ex_call rfl (by simp only [List.map_toArray, List.map_cons, List.map_nil, (ev s43 rfl), (ev s44 rfl), evc] <;> rfl) rfl) (same_rq sa ta sc tc _ (k1.later hS) (k2.later hS)) rfl hz (by decide) ?_
    rintro e y5 ⟨rfl, hb5⟩
    refine ⟨_, rfl, (hS.trans (hb5.mono hS.size)), fun A5_17 zz kk s45x => ?_⟩
    replace hS := hS.trans (hb5.mono hS.size)
    clear hb5
    replace s7 := kt kk s7
    replace s42 := kt kk s42
    clear kk hz s43 s44
    have hz := zz
    have s45 := s45x
    clear zz s45x A5_16
    refine vh_take 17 true (.bool true) rfl (by kernel_rfl) (by kernel_rfl) (by kernel_rfl) (want_none rfl) (fun hc v hv => ex_andT rfl s42 s45) rfl hz (by decide) hS (fun A5_18 zz kk s46x => ?_)
    replace s7 := kt kk s7
    clear kk hz s42 s45
    have hz := zz
    have s46 := s46x
    clear zz s46x A5_17
    refine vh_take 18 true (.bool true) rfl (by kernel_rfl) (by kernel_rfl) (by kernel_rfl) (want_none rfl) (fun hc v hv => ex_move rfl (ev s46 rfl)) rfl hz (by decide) hS (fun A5_19 zz kk s47x => ?_)
    replace s7 := kt kk s7
    clear kk hz s46
    have hz := zz
    have s47 := s47x
    clear zz s47x A5_18
    refine vh_take 19 true (.int .i64 71) rfl (by kernel_rfl) (by kernel_rfl) (by kernel_rfl) (want_t rfl rfl s47) (fun hc v hv => ex_move rfl (ev s7 rfl)) rfl hz (by decide) hS (fun A5_20 zz kk s48x => ?_)
    replace s47 := kt kk s47
    clear kk hz s7
    have hz := zz
    have s48 := s48x
    clear zz s48x A5_19
    refine vh_call 20 rfl (by kernel_rfl) (want_t rfl rfl s47) (ex_call rfl (by simp only [List.map_toArray, List.map_cons, List.map_nil, (ev s48 rfl), evc] <;> rfl) rfl) (num7_any 71 _) rfl hz (by decide) ?_
    rintro e y6 ⟨rfl, rfl⟩
    refine ⟨_, rfl, hS, fun A5_21 zz kk s49x => ?_⟩
    replace s47 := kt kk s47
    clear kk hz s48
    have hz := zz
    have s49 := s49x
    clear zz s49x A5_20
    refine vh_take 21 true (.bool true) rfl (by kernel_rfl) (by kernel_rfl) (by kernel_rfl) (want_t rfl rfl s47) (fun hc v hv => ex_bin rfl (ev s49 rfl) rfl (eq71 _ _ _)) rfl hz (by decide) hS (fun A5_22 zz kk s50x => ?_)
    replace s47 := kt kk s47
    clear kk hz s49
    have hz := zz
    have s50 := s50x
    clear zz s50x A5_21
    refine vh_take 22 true (.bool true) rfl (by kernel_rfl) (by kernel_rfl) (by kernel_rfl) (want_none rfl) (fun hc v hv => ex_andT rfl s47 s50) rfl hz (by decide) hS (fun A5_23 zz kk s51x => ?_)
    clear kk hz s47 s50
    have hz := zz
    have s51 := s51x
    clear zz s51x A5_22
    refine vh_take 23 true (.bool true) rfl (by kernel_rfl) (by kernel_rfl) (by kernel_rfl) (want_none rfl) (fun hc v hv => ex_assign rfl (ev s51 rfl)) rfl hz (by decide) hS (fun A5_24 zz kk s0x => ?_)
    clear kk hz s51
    have hz := zz
    have s0 := s0x
    clear zz s0x A5_23
    refine vh_done (by kernel_rfl) ?_
    have hfin := hB9.trans (hS.mono hB9.size)
    go_wp2
    refine bodyPost_ret (results_tmp rfl _ _ _) rfl ⟨?_, hfin⟩
    rw [getD_of s0]
    rfl
  refine vh_start (fun v => Below w8.heap.size w8 v) (by kernel_rfl) ?_
  have hS : Below w8.heap.size w8 w8.drew := (Below.refl _ _).drew
  refine vh_two 0 1 (by kernel_rfl) rfl rfl (want_none rfl) (ex_call (args := #[]) rfl (by simp) rfl) (three7_any _) rfl hz (by decide) ?_ (.slice (some ⟨w8.drew.heap.size, 0, none⟩) 3 3) (w8.drew.alloc zV3) (want_none rfl) (ex_mk rfl rfl rfl (mk3 _)) rfl (by decide) (hS.alloc hS.size _) ?_
  · rintro e y1 ⟨rfl, hb1⟩
    refine ⟨_, rfl, hS.trans (hb1.mono hS.size), fun Ta zz kk s25x => ?_⟩
    replace hS := hS.trans (hb1.mono hS.size)
    replace s1 := kt kk s1
    replace s2 := kt kk s2
    replace s3 := kt kk s3
    replace s5 := kt kk s5
    replace s6 := kt kk s6
    clear kk hz
    have hz := zz
    have s25 := s25x
    clear zz s25x
    refine vh_val 1 (.slice (some ⟨y1.heap.size, 0, none⟩) 3 3) (y1.alloc zV3) rfl (by kernel_rfl) (want_none rfl) (ex_mk rfl rfl rfl (mk3 _)) rfl hz (by decide) (hS.alloc hS.size _) (fun Te zz kk s26x => ?_)
    have hsl := sl3 y1
    replace hS := hS.alloc hS.size zV3
    replace s1 := kt kk s1
    replace s2 := kt kk s2
    replace s3 := kt kk s3
    replace s5 := kt kk s5
    replace s6 := kt kk s6
    replace s25 := kt kk s25
    clear kk hz
    have hz := zz
    have s26 := s26x
    clear zz s26x
    refine vh_take 2 true (cmB.val nilS (.slice (some ⟨y1.heap.size, 0, none⟩) 3 3)) rfl (by kernel_rfl) (by kernel_rfl) (by kernel_rfl) (want_none rfl) (fun hc v hv => ex_buildP rfl (by simp only [List.map_toArray, List.map_cons, List.map_nil, (ev s26 rfl)] <;> rfl) (bdCm _ _)) rfl hz (by decide) hS (fun Tb zz kk s27x => ?_)
    replace s1 := kt kk s1
    replace s2 := kt kk s2
    replace s3 := kt kk s3
    replace s5 := kt kk s5
    replace s6 := kt kk s6
    replace s25 := kt kk s25
    clear kk hz
    have hz := zz
    have s27 := s27x
    clear zz s27x
    refine vh_call 3 rfl (by kernel_rfl) (want_none rfl) (ex_call rfl (by simp only [List.map_toArray, List.map_cons, List.map_nil, (ev s25 rfl), (ev s27 rfl), evc] <;> rfl) rfl) (check_cm y1.heap.size _ (hT8.later hS hT8.lt) hsl) rfl hz (by decide) ?_
    rintro e y2 ⟨rfl, hbz⟩
    refine ⟨_, rfl, hS.trans (hbz.mono hS.size), fun Tc zz kk s28x => ?_⟩
    replace hS := hS.trans (hbz.mono hS.size)
    replace s1 := kt kk s1
    replace s2 := kt kk s2
    replace s3 := kt kk s3
    replace s5 := kt kk s5
    replace s6 := kt kk s6
    clear kk hz
    have hz := zz
    have s28 := s28x
    clear zz s28x
    refine vh_take 4 true (.int .i64 71) rfl (by kernel_rfl) (by kernel_rfl) (by kernel_rfl) (want_none rfl) (fun hc v hv => ex_assign rfl (ev s28 rfl)) rfl hz (by decide) hS (fun Td zz kk s7x => ?_)
    replace s1 := kt kk s1
    replace s2 := kt kk s2
    replace s3 := kt kk s3
    replace s5 := kt kk s5
    replace s6 := kt kk s6
    clear kk hz
    have hz := zz
    have s7 := s7x
    clear zz s7x
    refine vh_done (by kernel_rfl) ?_
    exact ⟨_, rfl, hz, s1, s2, s3, s5, s6, s7, hS⟩
  · intro Ta zz kk s26x
    have hsl := sl3 w8.drew
    replace hS := hS.alloc hS.size zV3
    replace s1 := kt kk s1
    replace s2 := kt kk s2
    replace s3 := kt kk s3
    replace s5 := kt kk s5
    replace s6 := kt kk s6
    clear kk hz
    have hz := zz
    have s26 := s26x
    clear zz s26x
    refine vh_take 2 true (cmB.val nilS (.slice (some ⟨w8.drew.heap.size, 0, none⟩) 3 3)) rfl (by kernel_rfl) (by kernel_rfl) (by kernel_rfl) (want_none rfl) (fun hc v hv => ex_buildP rfl (by simp only [List.map_toArray, List.map_cons, List.map_nil, (ev s26 rfl)] <;> rfl) (bdCm _ _)) rfl hz (by decide) hS (fun Tb zz kk s27x => ?_)
    replace s1 := kt kk s1
    replace s2 := kt kk s2
    replace s3 := kt kk s3
    replace s5 := kt kk s5
    replace s6 := kt kk s6
    clear kk hz
    have hz := zz
    have s27 := s27x
    clear zz s27x
    refine vh_call 0 rfl (by kernel_rfl) (want_none rfl) (ex_call (args := #[]) rfl (by simp) rfl) (three7_any _) rfl hz (by decide) ?_
    rintro e y1 ⟨rfl, hb1⟩
    refine ⟨_, rfl, hS.trans (hb1.mono hS.size), fun Tf zz kk s25x => ?_⟩
    replace hS := hS.trans (hb1.mono hS.size)
    replace s1 := kt kk s1
    replace s2 := kt kk s2
    replace s3 := kt kk s3
    replace s5 := kt kk s5
    replace s6 := kt kk s6
    replace s27 := kt kk s27
    clear kk hz
    have hz := zz
    have s25 := s25x
    clear zz s25x
    refine vh_call 3 rfl (by kernel_rfl) (want_none rfl) (ex_call rfl (by simp only [List.map_toArray, List.map_cons, List.map_nil, (ev s25 rfl), (ev s27 rfl), evc] <;> rfl) rfl) (check_cm w8.drew.heap.size _ (hT8.later hS hT8.lt) (hsl.later hb1)) rfl hz (by decide) ?_
    rintro e y2 ⟨rfl, hbz⟩
    refine ⟨_, rfl, hS.trans (hbz.mono hS.size), fun Tc zz kk s28x => ?_⟩
    replace hS := hS.trans (hbz.mono hS.size)
    replace s1 := kt kk s1
    replace s2 := kt kk s2
    replace s3 := kt kk s3
    replace s5 := kt kk s5
    replace s6 := kt kk s6
    clear kk hz
    have hz := zz
    have s28 := s28x
    clear zz s28x
    refine vh_take 4 true (.int .i64 71) rfl (by kernel_rfl) (by kernel_rfl) (by kernel_rfl) (want_none rfl) (fun hc v hv => ex_assign rfl (ev s28 rfl)) rfl hz (by decide) hS (fun Td zz kk s7x => ?_)
    replace s1 := kt kk s1
    replace s2 := kt kk s2
    replace s3 := kt kk s3
    replace s5 := kt kk s5
    replace s6 := kt kk s6
    clear kk hz
    have hz := zz
    have s7 := s7x
    clear zz s7x
    refine vh_done (by kernel_rfl) ?_
    exact ⟨_, rfl, hz, s1, s2, s3, s5, s6, s7, hS⟩
theorem CfB.upd {S : Nat → Prop} {w w' : World} {q : Nat} {c : Cf} (h : CfB w q c) (u : Upd S w w') (hs : ¬ S q) : CfB w' q c := ⟨Nat.lt_of_lt_of_le h.lt u.size, fun i x hx => (u.cell (p := ⟨q, i, none⟩) h.lt hs).trans (h.cell i x hx)⟩
theorem Tab.upd {S : Nat → Prop} {w w' : World} (h : Tab w) (u : Upd S w w') (hs : ¬ S 0) : Tab w' := ⟨Nat.lt_of_lt_of_le h.lt u.size, fun k j hk hj => (u.cell (p := ⟨0, k * 10 + j, none⟩) h.lt hs).trans (h.cell k j hk hj)⟩
theorem bxM (m : Mg) (s t : Value) (w : World) : (Instr.box 38 (m.val s t)).run Tryd.prog w = .ok (.pointer (some ⟨w.heap.size, 0, none⟩)) (w.alloc (.cells (m.cs s t).toArray 38)) := rfl
theorem eqSelf (x y : Operand) (a : Int) (w : World) : (do eqGuard .eql 3 x y (.int .i64 a) (.int .i64 a); binOp .eql 3 (.int .i64 a) (.int .i64 a) : Sem Value).run Tryd.prog w = .ok (.bool true) w := by
  have := eqlC x y a a w
  rwa [decide_eq_true rfl] at this
end Go.Proofs.YtabiimmpjllcpaaDoor
namespace Go.Proofs.YtabiimmpjllcpaaDoor
open Go.ChangeShapes Go.WideShapes Go.ChangeAt Go.RowKit
open Classical
set_option linter.unusedVariables false
theorem drCells : Tryd.prog.cellsOf 33 = 2 := by kernel_rfl
theorem drBytes : Tryd.prog.bytesOf 33 = 16 := by kernel_rfl
theorem rsCells : Tryd.prog.cellsOf 30 = 3 := by kernel_rfl
theorem kdCells : Tryd.prog.cellsOf 24 = 1 := by kernel_rfl
theorem u64Cells : Tryd.prog.cellsOf 31 = 1 := by kernel_rfl
theorem slCells : Tryd.prog.cellsOf 34 = 1 := by kernel_rfl
theorem vcCells : Tryd.prog.cellsOf 36 = 1 := by kernel_rfl
theorem msCells : Tryd.prog.cellsOf 38 = 18 := by kernel_rfl
def Mg.fits (m : Mg) : Prop := (Lit.int .i64 m.k).wf = true ∧ (Lit.int .i64 m.nd).wf = true ∧ (Lit.int .i64 m.vw).wf = true ∧ m.e.fits ∧ ((Lit.int .i64 m.r.1).wf = true ∧ (Lit.int .i64 m.r.2.1).wf = true ∧ m.r.2.2.size ≤ maxLen) ∧ (Lit.int .i64 m.p).wf = true ∧ (Lit.int .i64 m.cm).wf = true ∧ (Lit.int .i64 m.ls).wf = true ∧ (Lit.int .u64 m.d.1).wf = true ∧ (Lit.int .u64 m.d.2).wf = true
set_option maxRecDepth 100000 in
theorem open_drc {H : Type} {enc : TypeId × Value → H} {W : World} {base : Nat} {sp : Nat → Bool} {held : Bool} {n : Nat} {cs : List Value} {x : DataW H × List MemPlace} (h : DataW.trod enc Tryd.prog W base sp held n 33 cs = some x) :
    ∃ p : Int × Int, ((Lit.int .u64 p.1).wf = true ∧ (Lit.int .u64 p.2).wf = true) ∧ cs = [.int .u64 p.1, .int .u64 p.2] := by
  obtain ⟨xs, k, hk, hxy, hlen, hxl, hf⟩ := DataW.trod_struct Tryd.underlying33 h
  rw [drCells] at hlen
  have hxl : xs.length = 2 := hxl
  match xs, hxl, cs, hlen with
  | [y0, y1], _, [v0, v1], _ =>
    have g0 := hf 0 _ rfl
    have g1 := hf 1 _ rfl
    simp [u64Cells] at g0 g1
    obtain ⟨K, hK, hx0, hw0⟩ := DataW.trod_int Tryd.underlying31 g0
    obtain ⟨N, hN, hx2, hw2⟩ := DataW.trod_int Tryd.underlying31 g1
    refine ⟨(K, N), ⟨hw0, hw2⟩, ?_⟩
    rw [(List.cons_eq_cons.1 hK).1, (List.cons_eq_cons.1 hN).1]
set_option maxRecDepth 100000 in
theorem open_rsc {H : Type} {enc : TypeId × Value → H} {W : World} {base : Nat} {sp : Nat → Bool} {held : Bool} {n : Nat} {cs : List Value} {x : DataW H × List MemPlace} (h : DataW.trod enc Tryd.prog W base sp held n 30 cs = some x) :
    ∃ r : Int × Int × ByteArray, ((Lit.int .i64 r.1).wf = true ∧ (Lit.int .i64 r.2.1).wf = true ∧ r.2.2.size ≤ maxLen) ∧ cs = [.int .i64 r.1, .int .i64 r.2.1, .string r.2.2] := by
  obtain ⟨xs, k, hk, hxy, hlen, hxl, hf⟩ := DataW.trod_struct Tryd.underlying30 h
  rw [rsCells] at hlen
  have hxl : xs.length = 3 := hxl
  match xs, hxl, cs, hlen with
  | [y0, y1, y2], _, [v0, v1, v2], _ =>
    have g0 := hf 0 _ rfl
    have g1 := hf 1 _ rfl
    have g2 := hf 2 _ rfl
    simp [intCells, strCells] at g0 g1 g2
    obtain ⟨K, hK, hx0, hw0⟩ := DataW.trod_int Tryd.underlying3 g0
    obtain ⟨N, hN, hx2, hw2⟩ := DataW.trod_int Tryd.underlying3 g1
    obtain ⟨t, hS, hx4, hw4⟩ := DataW.trod_string Tryd.underlying9 g2
    refine ⟨(K, N, t), ⟨hw0, hw2, hw4⟩, ?_⟩
    rw [(List.cons_eq_cons.1 hK).1, (List.cons_eq_cons.1 hN).1, (List.cons_eq_cons.1 hS).1]
set_option maxRecDepth 100000 in
theorem slice_of_trod {α : Type} [Inhabited α] {Y : Lay α} (F : α → Prop) {T ST : TypeId} {k by_ : Nat} (hT : Y.T = T) (hk : Y.k = k) (kp : 0 < k) (klen : ∀ x, (Y.cs x).length = k) (hu : Tryd.prog.underlying ST = some (.slice T)) (hcl : Tryd.prog.cellsOf T = k) (hby : Tryd.prog.bytesOf T = by_) (hmul : ∀ n, n * by_ ≤ 140737488351232 → n * by_ ≤ 140737488351232)
    {H : Type} {enc : TypeId × Value → H} {W : World} {n : Nat} {v : Value} {d : DataW H} {p : List MemPlace}
    (hop : ∀ {m cs x}, DataW.trod enc Tryd.prog W 0 (fun _ => true) true m T cs = some x → ∃ e : α, F e ∧ cs = Y.cs e)
    (hf : DataW.trod enc Tryd.prog W 0 (fun _ => true) true n ST [v] = some (d, p))
    (hw : ∀ m, m ∈ d.weights Tryd.prog ST → m ≤ reachBytes) : ∃ a len cap, v = .slice a len cap ∧ ∃ P : List α, SlY Y W a len cap P ∧ (∀ e ∈ P, F e) ∧ len * by_ ≤ 140737488351232 := by
  rcases Go.Deep.open_slice hu hf with ⟨hcs, hx⟩ | ⟨y, ln, cp, m, k', D, Pl, hcs, hb, hl, hm, hmm, hx, hall⟩
  · have e := (List.cons_eq_cons.1 hcs).1
    cases e
    exact ⟨none, 0, 0, rfl, [], ⟨rfl, Nat.le_refl _, by unfold maxLen; omega, fun _ => ⟨rfl, rfl⟩, fun x hx => .inl rfl⟩, by simp, by omega⟩
  · have e := (List.cons_eq_cons.1 hcs).1
    subst e
    have hlm : ln ≤ m := by rw [hmm]; split <;> omega
    have each : ∀ i, i < ln → ∃ e : α, F e ∧ (∀ j, j < k → W.cell? ((y.add (i * k)).add j) = (Y.cs e)[j]?) := by
      intro i hi
      obtain ⟨cs', h1, h2⟩ := hall i (by omega)
      rw [hcl] at h1
      obtain ⟨e, hF, rfl⟩ := hop h2
      obtain ⟨_, _, hcell⟩ := World.cells?_some h1
      exact ⟨e, hF, hcell⟩
    obtain ⟨f, hp⟩ := Go.Deep.choose_lt each
    have hd := congrArg Prod.fst hx
    have hsz : ln * by_ ≤ 140737488351232 := by
      have hdd : d = _ := hd
      have := hw _ (by
        rw [hdd]
        simp only [DataW.weights, hu, hby]
        exact List.mem_cons_self)
      simp only [List.length_map, List.length_range, reachBytes] at this
      rw [Nat.add_mul] at this
      omega
    refine ⟨some y, ln, cp, rfl, (List.range ln).map f, ⟨by simp, hl, hm, (fun e => by cases e), fun x hx => ?_⟩, ?_, hsz⟩
    · cases hx
      by_cases hn0 : ln = 0
      · subst hn0
        exact .inl rfl
      · obtain ⟨b, o, s⟩ := y
        have z0 := (hp 0 (by omega)).2 0 kp
        have hs := World.cell?_spot (z0.trans (List.getElem?_eq_getElem (by rw [klen]; exact kp)))
        obtain rfl : s = none := by
          rw [Nat.zero_mul] at hs
          simpa [Addr.add] using hs
        refine .inr ⟨b, o, rfl, ?_, fun i x hx j u hu => ?_⟩
        · have c0 := z0.trans (List.getElem?_eq_getElem (by rw [klen]; exact kp))
          rw [Addr.add_lit, Addr.add_lit] at c0
          exact World.block_lt_of_cell? _ _ c0
        · have hi : i < ln := by
            have := (List.getElem?_eq_some_iff.1 hx).1
            simpa using this
          have e : f i = x := by
            simp [hi] at hx
            exact hx
          subst e
          have hj : j < k := by have := (List.getElem?_eq_some_iff.1 hu).1; rw [klen] at this; exact this
          have := (hp i hi).2 j hj
          rw [Addr.add_lit, Addr.add_lit] at this
          rw [hk]
          exact this.trans hu
    · intro q hq
      obtain ⟨i, hi, rfl⟩ := List.mem_map.1 hq
      exact (hp i (List.mem_range.1 hi)).1
def CameM (W : World) (m : Mg) (a1 : Option Addr) (n1 c1 : Nat) (a2 : Option Addr) (n2 c2 : Nat) : Prop := m.fits ∧ (∃ L : List En, SlY yE W a1 n1 c1 L ∧ (∀ e ∈ L, e.fits) ∧ n1 * 48 ≤ 140737488351232) ∧ ∃ D : List (Int × Int), SlY yD W a2 n2 c2 D ∧ (∀ d ∈ D, (Lit.int .u64 d.1).wf = true ∧ (Lit.int .u64 d.2).wf = true) ∧ n2 * 16 ≤ 140737488351232
set_option maxRecDepth 100000 in
set_option maxHeartbeats 2000000 in
theorem open_msg {H : Type} {enc : TypeId × Value → H} {W : World} {base : Nat} {v : Value} {d : DataW H} {p : List MemPlace} (hv : Value.okWide Tryd.prog W .any base 38 v) (h : DataW.Trod enc Tryd.prog W 0 (fun _ => true) true 38 v d p)
    (hw : ∀ m, m ∈ d.weights Tryd.prog 38 → m ≤ reachBytes) :
    ∃ (m : Mg) (a1 : Option Addr) (n1 c1 : Nat) (a2 : Option Addr) (n2 c2 : Nat), v = m.val (.slice a1 n1 c1) (.slice a2 n2 c2) ∧ CameM W m a1 n1 c1 a2 n2 c2 := by
  obtain ⟨cs, rfl, hsz⟩ := okWide_struct Tryd.underlying38 hv
  rw [msCells] at hsz
  obtain ⟨l⟩ := cs
  obtain ⟨fuel, hf⟩ := h
  obtain ⟨xs, k, hk, hxy, hlen, hxl, hf⟩ := DataW.trod_struct Tryd.underlying38 hf
  have hxl : xs.length = 11 := hxl
  match xs, hxl, l, hsz with
  | [y0, y1, y2, y3, y4, y5, y6, y7, y8, y9, y10], _, [v0, v1, v2, v3, v4, v5, v6, v7, v8, v9, v10, v11, v12, v13, v14, v15, v16, v17], _ =>
    have g0 := hf 0 _ rfl
    have g1 := hf 1 _ rfl
    have g2 := hf 2 _ rfl
    have g3 := hf 3 _ rfl
    have g4 := hf 4 _ rfl
    have g5 := hf 5 _ rfl
    have g6 := hf 6 _ rfl
    have g7 := hf 7 _ rfl
    have g8 := hf 8 _ rfl
    have g9 := hf 9 _ rfl
    have g10 := hf 10 _ rfl
    simp [Value.cells, intCells, kdCells, enCells, rsCells, drCells, slCells, vcCells] at g0 g1 g2 g3 g4 g5 g6 g7 g8 g9 g10
    obtain ⟨K, hK, _, wK⟩ := DataW.trod_int Tryd.underlying24 g0
    obtain ⟨N, hN, _, wN⟩ := DataW.trod_int Tryd.underlying3 g1
    obtain ⟨V, hV, _, wV⟩ := DataW.trod_int Tryd.underlying3 g2
    obtain ⟨e, we, he⟩ := open_enc g3
    obtain ⟨r, wr, hr⟩ := open_rsc g4
    obtain ⟨P, hP, _, wP⟩ := DataW.trod_int Tryd.underlying3 g5
    obtain ⟨C, hC, _, wC⟩ := DataW.trod_int Tryd.underlying3 g6
    obtain ⟨Ls, hLs, _, wLs⟩ := DataW.trod_int Tryd.underlying3 g7
    obtain ⟨dr, wdr, hdr⟩ := open_drc g8
    have hd : d = .agg ([y0, y1, y2, y3, y4, y5, y6, y7, y8, y9, y10].map Prod.fst) := congrArg Prod.fst hxy
    haveI : Inhabited En := ⟨⟨0, 0, ⟨0, 0, ⟨#[]⟩⟩⟩⟩
    obtain ⟨a1, n1, c1, e16, hL⟩ := slice_of_trod (Y := yE) En.fits rfl rfl (by decide) (fun _ => rfl) Tryd.underlying34 enCells enBytes (fun _ h => h) (fun h => open_enc h) g9 (fun k hk => hw k (by
      rw [hd]
      simp only [DataW.weights, Tryd.underlying38]
      exact DataW.weights_mem_each (j := 9) (t := 34) rfl rfl k hk))
    obtain ⟨a2, n2, c2, e17, hD⟩ := slice_of_trod (Y := yD) (fun d => (Lit.int .u64 d.1).wf = true ∧ (Lit.int .u64 d.2).wf = true) rfl rfl (by decide) (fun _ => rfl) Tryd.underlying36 drCells drBytes (fun _ h => h) (fun h => open_drc h) g10 (fun k hk => hw k (by
      rw [hd]
      simp only [DataW.weights, Tryd.underlying38]
      exact DataW.weights_mem_each (j := 10) (t := 36) rfl rfl k hk))
    refine ⟨⟨K, N, V, e, r, P, C, Ls, dr⟩, a1, n1, c1, a2, n2, c2, ?_, ⟨wK, wN, wV, we, wr, wP, wC, wLs, wdr.1, wdr.2⟩, hL, hD⟩
    simp [En.cs] at hK hN hV he hr hP hC hLs hdr
    obtain ⟨q3, q4, q5, q6, q7⟩ := he
    obtain ⟨q8, q9, q10⟩ := hr
    obtain ⟨q14, q15⟩ := hdr
    subst hK hN hV q3 q4 q5 q6 q7 q8 q9 q10 hP hC hLs q14 q15 e16 e17
    rfl
end Go.Proofs.YtabiimmpjllcpaaDoor
namespace Go.Proofs.YtabiimmpjllcpaaDoor
open Go.RowKit Go.Maps Go.WideShapes Go.ChangeShapes
open Classical
set_option linter.unusedVariables false
set_option linter.unusedSimpArgs false
theorem gTab : Tryd.prog.globalNamed "amnesia/message.table" = some 0 := by kernel_rfl
theorem gTabT : (Tryd.prog.globals[0]?).map (·.type) = some 72 := by kernel_rfl
theorem cellsRow : Tryd.prog.cellsOf 71 = 10 := by kernel_rfl
theorem cellsRule : Tryd.prog.cellsOf 70 = 1 := by kernel_rfl
theorem undTab : Tryd.prog.underlying 72 = some (.array 15 71) := by kernel_rfl
theorem undRow : Tryd.prog.underlying 71 = some (.array 10 70) := by kernel_rfl
theorem undRule : Tryd.prog.underlying 70 = some (.int .u8) := by kernel_rfl
theorem tab_of_laid7 {W : World} (h : laidMetH Tryd.prog [("amnesia/message.table", Rows.laid_amnesia_message_table)] W) : Tab W := by
  rw [MakeChecks.laidMetH_plain _ _ _ (by kernel_rfl)] at h
  obtain ⟨ps, ⟨g', t', cs, fuel, p, q, hg', ht', hvar, hd, _, _⟩, _⟩ := h
  obtain rfl := Option.some.inj (gTab.symm.trans hg')
  obtain rfl := Option.some.inj (gTabT.symm.trans ht')
  obtain ⟨xs, m, _, hx, hl, hxl, hall⟩ := DataW.trod_array undTab hd
  have e : (Rows.laid_amnesia_message_table : DataW Unit) = .agg ((List.range 15).map fun k => Lib.tabData .u8 ((List.range 10).map fun j => (tabA k j : Int))) := by kernel_rfl
  have hxs : xs.map (·.1) = (List.range 15).map fun k => (Lib.tabData .u8 ((List.range 10).map fun j => (tabA k j : Int)) : DataW Unit) := by
    have h1 := congrArg Prod.fst hx
    rw [e] at h1
    exact (DataW.agg.inj h1).symm
  have row : ∀ k, k < 15 → (cs.toList.drop (k * 10)).take 10 = ((List.range 10).map fun j => (tabA k j : Int)).map fun z => Value.int .u8 z := by
    intro k hk
    have h1 := hall k hk
    rw [cellsRow] at h1
    obtain ⟨x, hx⟩ : ∃ x, xs[k]? = some x := ⟨_, List.getElem?_eq_getElem (by omega)⟩
    rw [hx] at h1
    have h2 : x.1 = (Lib.tabData .u8 ((List.range 10).map fun j => (tabA k j : Int)) : DataW Unit) := by
      have h3 := congrArg (fun l => l[k]?) hxs
      simp only [List.getElem?_map, hx, Option.map_some, List.getElem?_range hk] at h3
      exact Option.some.inj h3
    obtain ⟨d, pp⟩ := x
    subst h2
    exact Lib.cells_of_tab undRow undRule cellsRule cellsRow h1
  have cell : ∀ k j, k < 15 → j < 10 → W.cell? ⟨0, k * 10 + j, none⟩ = some (.int .u8 (tabA k j : Int)) := by
    intro k j hk hj
    have h1 := World.var?_cell gTab hvar (k * 10 + j)
    rw [h1]
    have h2 := congrArg (fun l => l[j]?) (row k hk)
    simp only [List.getElem?_take_of_lt hj, List.getElem?_drop, List.getElem?_map, List.getElem?_range hj, Option.map_some, Array.getElem?_toList] at h2
    exact h2
  refine ⟨?_, cell⟩
  have h0 := cell 0 0 (by decide) (by decide)
  apply Nat.pos_of_ne_zero
  intro hz
  have : W.heap[0]? = none := Array.getElem?_eq_none (by omega)
  simp [World.cell?, this] at h0
theorem cfCells7 : Tryd.prog.cellsOf 23 = 4 := by kernel_rfl
theorem boolCells7 : Tryd.prog.cellsOf 4 = 1 := by kernel_rfl
set_option maxRecDepth 100000 in
theorem open_cfg {H : Type} {enc : TypeId × Value → H} {W : World} {base : Nat} {v : Value} {d : DataW H} {p : List MemPlace} (hv : Value.okWide Tryd.prog W .any base 23 v) (h : DataW.Trod enc Tryd.prog W 0 (fun _ => true) true 23 v d p) :
    ∃ x : Cf, v = x.val ∧ True := by
  obtain ⟨cs, rfl, hsz⟩ := okWide_struct Tryd.underlying23 hv
  obtain ⟨fuel, hf⟩ := h
  obtain ⟨xs, k, hk, hxy, hlen, hxl, hf⟩ := DataW.trod_struct Tryd.underlying23 hf
  rw [cfCells7] at hlen
  have hxl : xs.length = 4 := hxl
  simp only [Value.cells] at hlen hf
  obtain ⟨l⟩ := cs
  match xs, hxl, l, hlen with
  | [y0, y1, y2, y3], _, [v0, v1, v2, v3], _ =>
    have g0 := hf 0 _ rfl
    have g1 := hf 1 _ rfl
    have g2 := hf 2 _ rfl
    have g3 := hf 3 _ rfl
    simp [intCells, boolCells7] at g0 g1 g2 g3
    obtain ⟨A, hA, _, _⟩ := DataW.trod_int Tryd.underlying3 g0
    obtain ⟨B, hB, _, _⟩ := DataW.trod_int Tryd.underlying3 g1
    obtain ⟨C, hC, _, _⟩ := DataW.trod_int Tryd.underlying3 g2
    obtain ⟨b, hb, _⟩ := DataW.trod_bool Tryd.underlying4 g3
    refine ⟨⟨A, B, C, b⟩, ?_, trivial⟩
    simp at hA hB hC hb
    subst hA hB hC hb
    rfl
end Go.Proofs.YtabiimmpjllcpaaDoor
namespace Go.Proofs.YtabiimmpjllcpaaDoor
open Go.RowKit Go.Maps
open Classical
set_option linter.unusedVariables false
set_option linter.unusedSimpArgs false
theorem enB_byte {c : Cf} {m : Mg} {L : List En} {D : List (Int × Int)} (hf : m.e.fits) (hL : ∀ e ∈ L, e.fits) (hd : drF m.d) (hD : ∀ d ∈ D, drF d) (hlen : (L.length : Int) ≤ 9223372036854775807) : ∀ z ∈ enB c m L D, 0 ≤ z ∧ z < 256 := by
  unfold enB
  split
  · rename_i h
    obtain ⟨hm, k1, k2⟩ := ck_mgF h hf hL hd hD hlen
    exact M.frame_byte _ (mbBy_byte hm (by omega))
  · exact fun z hz => by cases hz
theorem drF_wf {d : Int × Int} (h : (Lit.int .u64 d.1).wf = true ∧ (Lit.int .u64 d.2).wf = true) : drF d := by
  have h1 := bounds_u64 h.1
  have h2 := bounds_u64 h.2
  exact ⟨h1.1, by omega, h2.1, by omega⟩
theorem want_k {ops : Array Oper} {o : Oper} {T : Array Value} {g j : Nat} {pol : Bool} (h : o.guard = some (g, pol)) (hg : (ops[g]?).bind (·.dst) = some j) (hj : T[j]? = some (gw true (.bool pol))) : Region.wanted o (yielded ops T) = true := by
  rw [want_g h hg hj]
  cases pol <;> rfl
theorem ex_len8 {o : Oper} {ρ : Operand → Value} {i : Nat} {a : Option Addr} {n k : Nat} {w : World} (ho : o.op = .call { callee := .builtin .len, args := #[.tmp i], argTypes := #[39] }) (ht : o.type = 3) (hx : ρ (.tmp i) = .slice a n k) : (execOp ρ o).run Tryd.prog w = .ok (.value (.int .i64 (n : Int))) w := by
  unfold execOp
  simp only [ho]
  rw [Sem.run_bind]
  simp only [resolve, List.map_toArray, List.map_cons, List.map_nil, hx, ht]
  go_simp
theorem decode_sl (c : Cf) (a : Option Addr) (n c_ : Nat) (f : List Int) (w : World) (hH : Wi.Hs w a n c_ f) (hm : n ≤ 140737488355328) (hT : Tab w) :
    Calls Tryd.prog 10 #[c.val, .slice a n c_] w fun e w' => ∃ sa sc ta tc, e = .returned (.tuple #[(dcM c f).1.m.val (.slice sa (dcM c f).1.L.length sc) (.slice ta (dcM c f).1.D.length tc), .int .i64 (dcM c f).2]) ∧ SlY yE w' sa (dcM c f).1.L.length sc (dcM c f).1.L ∧ SlY yD w' ta (dcM c f).1.D.length tc (dcM c f).1.D ∧ Below w.heap.size w w' := by
  refine (decode_any c a n c_ f w hH hm hT).mono ?_
  rintro e w' ⟨s, t, rfl, h1, h2, hb⟩
  obtain ⟨sa, sc, rfl, k1, _⟩ := h1.sl kE
  obtain ⟨ta, tc, rfl, k2, _⟩ := h2.sl kD
  exact ⟨sa, sc, ta, tc, rfl, k1, k2, hb⟩
theorem samemsg_eq (m : Mg) (a1 a2 : Option Addr) (c1 c2 : Nat) (b1 b2 : Option Addr) (e1 e2 : Nat) (L : List En) (D : List (Int × Int)) (w : World) (h1 : SlY yE w a1 L.length c1 L) (h2 : SlY yD w a2 D.length c2 D) (h3 : SlY yE w b1 L.length e1 L) (h4 : SlY yD w b2 D.length e2 D) :
    Calls Tryd.prog 11 #[m.val (.slice a1 L.length c1) (.slice a2 D.length c2), m.val (.slice b1 L.length e1) (.slice b2 D.length e2)] w fun e w' => e = .returned (.bool true) ∧ Below w.heap.size w w' := by
  have := samemsg_any m m a1 a2 b1 b2 L.length D.length L.length D.length c1 c2 e1 e2 L L D D w h1 h2 h3 h4
  rwa [(sameM_iff m m L L D D).2 ⟨rfl, rfl, rfl⟩] at this
theorem same_zero {x : Rst} {ua va : Option Addr} {uc vc : Nat} {w : World} (h : x = ⟨zG, [], [], (0, 0)⟩) (h1 : SlY yE w ua x.L.length uc x.L) (h2 : SlY yD w va x.D.length vc x.D) :
    Calls Tryd.prog 11 #[x.m.val (.slice ua x.L.length uc) (.slice va x.D.length vc), zG.val nilS nilS] w fun e w' => e = .returned (.bool true) ∧ Below w.heap.size w w' := by
  subst h
  exact samemsg_eq zG ua va uc vc none none 0 0 [] [] w h1 h2 (sl_nil _ _) (sl_nil _ _)
end Go.Proofs.YtabiimmpjllcpaaDoor
namespace Go.Proofs.YtabiimmpjllcpaaDoor.M
/-! The sum's algebra: a step is linear and one to one. -/
set_option linter.unusedVariables false
theorem shr_one (x : Nat) : x >>> 1 = x / 2 := by rw [Nat.shiftRight_eq_div_pow]
theorem shl_one (j : Nat) : 1 <<< j = 2 ^ j := by rw [Nat.shiftLeft_eq, Nat.one_mul]
theorem and_one_xor (x y : Nat) : (x ^^^ y) &&& 1 = (x &&& 1) ^^^ (y &&& 1) := Nat.and_xor_distrib_right
theorem mul_bit (p a b : Nat) (ha : a ≤ 1) (hb : b ≤ 1) : p * (a ^^^ b) = (p * a) ^^^ (p * b) := by
  match a, b, ha, hb with
  | 0, 0, _, _ => simp
  | 0, 1, _, _ => simp
  | 1, 0, _, _ => simp
  | 1, 1, _, _ => simp
theorem xor4 (a b c d : Nat) : (a ^^^ b) ^^^ (c ^^^ d) = (a ^^^ c) ^^^ (b ^^^ d) := by
  rw [Nat.xor_assoc, Nat.xor_assoc, ← Nat.xor_assoc b c d, Nat.xor_comm b c, Nat.xor_assoc c b d]
theorem st_xor (x y : Nat) : st (x ^^^ y) = st x ^^^ st y := by
  unfold st
  rw [Nat.shiftRight_xor_distrib, and_one_xor, mul_bit _ _ _ (one_le x) (one_le y), xor4]
theorem stN_xor (k x y : Nat) : stN k (x ^^^ y) = stN k x ^^^ stN k y := by
  induction k with
  | zero => rfl
  | succ k ih => simp only [stN, ih, st_xor]
theorem stN_add (j k x : Nat) : stN (j + k) x = stN j (stN k x) := by
  induction j with
  | zero => simp [stN]
  | succ j ih => rw [Nat.succ_add]; simp only [stN, ih]
theorem st_shl (y k : Nat) : st (y <<< (k + 1)) = y <<< k := by
  unfold st
  have h1 : y <<< (k + 1) >>> 1 = y <<< k := by
    rw [Nat.shiftLeft_succ, shr_one]
    omega
  have h2 : y <<< (k + 1) &&& 1 = 0 := by
    rw [Nat.shiftLeft_succ, Nat.and_one_is_mod]
    omega
  rw [h1, h2]
  simp
theorem stN_shl (k y : Nat) : stN k (y <<< k) = y := by
  have key : ∀ j i, stN j (y <<< (j + i)) = y <<< i := by
    intro j
    induction j with
    | zero => intro i; simp [stN]
    | succ j ih =>
      intro i
      simp only [stN]
      rw [show j + 1 + i = j + (i + 1) from by omega, ih (i + 1), st_shl]
  simpa using key k 0
theorem xor_zero_eq {a b : Nat} (h : a ^^^ b = 0) : a = b := by
  have h2 := congrArg (fun t => t ^^^ b) h
  simp only [Nat.xor_assoc, Nat.xor_self, Nat.xor_zero, Nat.zero_xor] at h2
  exact h2
theorem st_ne (s : Nat) (h : s < 4294967296) (hn : s ≠ 0) : st s ≠ 0 := by
  unfold st
  intro h0
  rw [shr_one, Nat.and_one_is_mod] at h0
  have h1 : s / 2 = 3988292384 * (s % 2) := xor_zero_eq h0
  omega
theorem stN_ne (k s : Nat) (h : s < 4294967296) (hn : s ≠ 0) : stN k s ≠ 0 := by
  induction k with
  | zero => exact hn
  | succ k ih => exact st_ne _ (stN_lt k s h) ih
theorem add_xor (z r : Nat) (h : z < 256) : z + 256 * r = z ^^^ (r <<< 8) := by
  have h1 := or_low r z 8 (by omega)
  have h2 : r <<< 8 ^^^ z = r <<< 8 + z := by
    rw [Nat.shiftLeft_eq]
    apply Nat.eq_of_testBit_eq
    intro i
    rw [← h1, Nat.testBit_xor, Nat.testBit_or]
    by_cases hi : i < 8
    · rw [Nat.mul_comm, Nat.testBit_two_pow_mul]
      simp [show ¬ 8 ≤ i from by omega]
    · have : z.testBit i = false := Nat.testBit_lt_two_pow (Nat.lt_of_lt_of_le h (show 2 ^ 8 ≤ 2 ^ i from Nat.pow_le_pow_right (by omega) (by omega)))
      rw [this]
      simp
  rw [Nat.xor_comm, h2, Nat.shiftLeft_eq]
  omega
theorem rl_cons (z : Int) (r : List Int) (h : z < 256) : rl (z :: r) = z.toNat ^^^ (rl r <<< 8) := by
  rw [rl, add_xor _ _ (by omega)]
theorem stN_8 (x y : Nat) : stN 8 (x ^^^ (y <<< 8)) = stN 8 x ^^^ y := by rw [stN_xor, stN_shl]
theorem fold_eq (l : List Int) (s : Nat) (h : ∀ z ∈ l, 0 ≤ z ∧ z < 256) : fold s l = stN (8 * l.length) (s ^^^ rl l) := by
  induction l generalizing s with
  | nil => simp [fold, rl, stN]
  | cons z r ih =>
    have hz := h z (by simp)
    have e : fold s (z :: r) = fold (upd s z) r := rfl
    rw [e, ih (upd s z) (fun y hy => h y (by simp [hy])), rl_cons z r hz.2]
    unfold upd
    rw [← stN_8, ← stN_add, Nat.xor_assoc, List.length_cons, Nat.mul_add]
theorem fold_append (s : Nat) (a b : List Int) : fold s (a ++ b) = fold (fold s a) b := by simp [fold, List.foldl_append]
theorem residue (a t : List Int) (ha : ∀ z ∈ a, 0 ≤ z ∧ z < 256) (ht : ∀ z ∈ t, 0 ≤ z ∧ z < 256) (h4 : t.length = 4) (h : sum a = rl t) : fold 4294967295 (a ++ t) = stN 32 4294967295 := by
  rw [fold_append, fold_eq t _ ht, h4, ← h]
  unfold sum
  rw [Nat.xor_comm 4294967295 (fold 4294967295 a), ← Nat.xor_assoc, Nat.xor_self, Nat.zero_xor]
theorem burst (f g : List Int) (hf : ∀ z ∈ f, 0 ≤ z ∧ z < 256) (hg : ∀ z ∈ g, 0 ≤ z ∧ z < 256) (hl : g.length = f.length) (h4 : 4 ≤ f.length)
    (sf : sum (f.take (f.length - 4)) = rl (f.drop (f.length - 4))) (sg : sum (g.take (g.length - 4)) = rl (g.drop (g.length - 4)))
    (m i : Nat) (hm : m < 4294967296) (hi : i < 8 * f.length) (hx : rl g = rl f ^^^ (m <<< i)) : m = 0 := by
  have r1 := residue _ _ (fun z hz => hf z (List.mem_of_mem_take hz)) (fun z hz => hf z (List.mem_of_mem_drop hz)) (by simp; omega) sf
  have r2 := residue _ _ (fun z hz => hg z (List.mem_of_mem_take hz)) (fun z hz => hg z (List.mem_of_mem_drop hz)) (by simp; omega) sg
  rw [List.take_append_drop] at r1 r2
  rw [fold_eq f _ hf] at r1
  rw [fold_eq g _ hg, hx, hl, ← r1, ← Nat.xor_assoc, stN_xor] at r2
  generalize stN (8 * f.length) (4294967295 ^^^ rl f) = A at r2
  have r3 : stN (8 * f.length) (m <<< i) = 0 := by
    have := congrArg (fun t => A ^^^ t) r2
    simp only [← Nat.xor_assoc, Nat.xor_self, Nat.zero_xor] at this
    exact this
  rw [show 8 * f.length = (8 * f.length - i) + i from by omega, stN_add, stN_shl] at r3
  by_cases h0 : m = 0
  · exact h0
  · exact absurd r3 (stN_ne _ _ hm h0)
theorem rl_set (l : List Int) (k j : Nat) (hk : k < l.length) (hj : j < 8) (h : ∀ z ∈ l, 0 ≤ z ∧ z < 256) : rl (l.set k (((l.getD k 0).toNat ^^^ 2 ^ j : Nat) : Int)) = rl l ^^^ (1 <<< (8 * k + j)) := by
  induction l generalizing k with
  | nil => simp at hk
  | cons z r ih =>
    have hz := h z (by simp)
    cases k with
    | zero =>
      have hb : z.toNat ^^^ 2 ^ j < 256 := Nat.xor_lt_two_pow (n := 8) (by omega) (Nat.pow_lt_pow_right (by omega) hj)
      simp only [List.set_cons_zero, List.getD_cons_zero]
      rw [rl_cons _ _ (by omega), rl_cons z r hz.2, Int.toNat_natCast, Nat.mul_zero, Nat.zero_add, shl_one, Nat.xor_assoc, Nat.xor_comm (2 ^ j), ← Nat.xor_assoc]
    | succ k =>
      simp only [List.set_cons_succ, List.getD_cons_succ]
      rw [rl_cons _ _ hz.2, rl_cons z r hz.2, ih k (by simpa using hk) (fun y hy => h y (by simp [hy])), Nat.shiftLeft_xor_distrib, ← Nat.shiftLeft_add, Nat.xor_assoc]
      congr 3
      omega
theorem set_byte (l : List Int) (k j : Nat) (hj : j < 8) (h : ∀ z ∈ l, 0 ≤ z ∧ z < 256) : ∀ z ∈ l.set k (((l.getD k 0).toNat ^^^ 2 ^ j : Nat) : Int), 0 ≤ z ∧ z < 256 := by
  intro z hz
  rcases List.mem_or_eq_of_mem_set hz with hz | rfl
  · exact h z hz
  · have hb : (l.getD k 0).toNat < 256 := by
      by_cases hk : k < l.length
      · have := h (l.getD k 0) (by simp [List.getD, hk])
        omega
      · simp [List.getD, List.getElem?_eq_none (Nat.le_of_not_lt hk)]
    have hb : (l.getD k 0).toNat ^^^ 2 ^ j < 256 := Nat.xor_lt_two_pow (n := 8) (by omega) (Nat.pow_lt_pow_right (by omega) hj)
    omega
theorem mask_succ (m k : Nat) : m % 2 ^ (k + 1) = m % 2 ^ k ^^^ ((m / 2 ^ k % 2) <<< k) := by
  apply Nat.eq_of_testBit_eq
  intro i
  rw [Nat.testBit_mod_two_pow, Nat.testBit_xor, Nat.testBit_mod_two_pow, Nat.testBit_shiftLeft]
  rcases Nat.lt_trichotomy i k with h | h | h
  · simp [h, show i < k + 1 from by omega, show ¬ k ≤ i from by omega]
  · subst h
    simp [Nat.testBit_eq_decide_div_mod_eq]
  · have h1 : (m / 2 ^ k % 2).testBit (i - k) = false := Nat.testBit_lt_two_pow (Nat.lt_of_lt_of_le (Nat.mod_lt _ (by omega)) (show 2 ^ 1 ≤ 2 ^ (i - k) from Nat.pow_le_pow_right (by omega) (by omega)))
    simp [h1, show ¬ i < k from by omega, show ¬ i < k + 1 from by omega]
end Go.Proofs.YtabiimmpjllcpaaDoor.M
namespace Go.Proofs.YtabiimmpjllcpaaDoor.Wi
open Go.RowKit
set_option linter.unusedVariables false
theorem opErr_zero {f : List Int} (h : opErr f = 0) : outErr f = 0 ∧ M.sum (f.take (f.length - 4)) = M.rl (f.drop (f.length - 4)) := by
  have hout : outErr f = 0 := by
    by_cases h1 : outErr f = 0
    · exact h1
    · rw [opErr_out h1] at h; exact absurd h h1
  refine ⟨hout, ?_⟩
  by_cases h1 : M.sum (f.take (f.length - 4)) = M.rl (f.drop (f.length - 4))
  · exact h1
  · rw [opErr_sum hout h1] at h; cases h
theorem told_burst (f g : List Int) (hf : ∀ z ∈ f, 0 ≤ z ∧ z < 256) (hg : ∀ z ∈ g, 0 ≤ z ∧ z < 256) (hl : g.length = f.length) (ef : opErr f = 0) (m i : Nat) (hm : m < 4294967296) (hi : i < 8 * f.length) (hx : M.rl g = M.rl f ^^^ (m <<< i)) (h0 : m ≠ 0) : opErr g ≠ 0 := by
  intro eg
  obtain ⟨o1, s1⟩ := opErr_zero ef
  obtain ⟨o2, s2⟩ := opErr_zero eg
  have := (outErr_range o1).1
  exact h0 (M.burst f g hf hg hl (by omega) s1 s2 m i hm hi hx)
theorem bit_test (m k : Nat) (hm : m < 4294967296) : (bits .and .u32 ((m : Int) / 2 ^ k) 1 == 1) = decide (m / 2 ^ k % 2 = 1) := by
  have e1 : ((m : Int) / 2 ^ k) = ((m / 2 ^ k : Nat) : Int) := by simp
  have h1 : m / 2 ^ k < 4294967296 := Nat.lt_of_le_of_lt (Nat.div_le_self _ _) hm
  have e2 : bits .and .u32 ((m / 2 ^ k : Nat) : Int) 1 = ((m / 2 ^ k &&& 1 : Nat) : Int) := u32_and_nat _ 1 h1 (by omega)
  rw [e1, e2, Nat.and_one_is_mod]
  have h2 : m / 2 ^ k % 2 < 2 := Nat.mod_lt _ (by omega)
  generalize m / 2 ^ k % 2 = b at *
  match b, h2 with
  | 0, _ | 1, _ => rfl
def chB (m k : Nat) : Bool := decide (m % 2 ^ k ≠ 0)
theorem chB_turn (m k : Nat) (hb : m / 2 ^ k % 2 = 1) : chB m (k + 1) = true := by
  unfold chB
  rw [decide_eq_true_iff]
  intro h
  rw [M.mask_succ, hb, M.shl_one] at h
  have h1 := M.xor_zero_eq h
  have h2 : m % 2 ^ k < 2 ^ k := Nat.mod_lt _ (Nat.pow_pos (by omega))
  omega
theorem chB_skip (m k : Nat) (hb : m / 2 ^ k % 2 = 0) : chB m (k + 1) = chB m k := by
  unfold chB
  rw [M.mask_succ, hb]
  simp
theorem store_val (z : Int) (j : Nat) (hj : j < 8) (h0 : 0 ≤ z) (h1 : z < 256) : bits .xor .u8 z (2 ^ j % 256) = ((z.toNat ^^^ 2 ^ j : Nat) : Int) := by
  have hp : 2 ^ j < 2 ^ 8 := Nat.pow_lt_pow_right (by omega) hj
  have e : ((2 : Int) ^ j % 256) = ((2 ^ j : Nat) : Int) := by
    have : ((2 : Int) ^ j) = ((2 ^ j : Nat) : Int) := by simp
    rw [this]
    clear this
    revert hp
    generalize 2 ^ j = q
    intro hp
    omega
  obtain ⟨n, rfl⟩ := Int.eq_ofNat_of_zero_le h0
  rw [e, u8_xor_nat n (2 ^ j) (by omega) (by omega)]
  rfl
structure Turned (B : Nat) (w0 w : World) (g n c : Nat) (F : List Int) (i m k : Nat) (G : List Int) : Prop where
  own : Own B w (.slice (some ⟨g, 0, none⟩) n c) G
  bel : Below B w0 w
  len : G.length = n
  byte : ∀ z ∈ G, 0 ≤ z ∧ z < 256
  num : M.rl G = M.rl F ^^^ ((m % 2 ^ k) <<< i)
theorem Turned.skip {B : Nat} {w0 w : World} {g n c : Nat} {F : List Int} {i m k : Nat} {G : List Int} (h : Turned B w0 w g n c F i m k G) (hb : m / 2 ^ k % 2 = 0) : Turned B w0 w g n c F i m (k + 1) G := by
  refine ⟨h.own, h.bel, h.len, h.byte, ?_⟩
  rw [h.num, M.mask_succ, hb]
  simp
theorem Turned.turn {B : Nat} {w0 w : World} {g n c : Nat} {F : List Int} {i m k : Nat} {G : List Int} (h : Turned B w0 w g n c F i m k G) (hb : m / 2 ^ k % 2 = 1) (hg : B ≤ g) (hk : i + k < 8 * n) :
    Turned B w0 (w.setCell ⟨g, (i + k) / 8, none⟩ (.int .u8 (((G.getD ((i + k) / 8) 0).toNat ^^^ 2 ^ ((i + k) % 8) : Nat) : Int))) g n c F i m (k + 1) (G.set ((i + k) / 8) (((G.getD ((i + k) / 8) 0).toNat ^^^ 2 ^ ((i + k) % 8) : Nat) : Int)) := by
  have hlt : (i + k) / 8 < G.length := by rw [h.len]; omega
  refine ⟨h.own.stored _ _, h.bel.setCell hg _, by rw [List.length_set]; exact h.len, M.set_byte G _ _ (by omega) h.byte, ?_⟩
  rw [M.rl_set G _ _ hlt (by omega) h.byte, h.num, M.mask_succ, hb, show 8 * ((i + k) / 8) + (i + k) % 8 = k + i from by omega, Nat.shiftLeft_xor_distrib, ← Nat.shiftLeft_add, Nat.xor_assoc]
end Go.Proofs.YtabiimmpjllcpaaDoor.Wi
namespace Go.Proofs.YtabiimmpjllcpaaDoor
open Go.RowKit Go.Maps
open Classical
set_option linter.unusedVariables false
set_option linter.unusedSimpArgs false
theorem ex_cv {o : Oper} {ρ : Operand → Value} {s t : TypeId} {x : Operand} {X V : Value} {w : World} (ho : o.op = .convert s t x) (hx : ρ x = X) (hr : (convert s t X).run Tryd.prog w = .ok V w) : (execOp ρ o).run Tryd.prog w = .ok (.value V) w := by
  unfold execOp
  simp only [ho, hx, Sem.run_bind, hr, Result.andThen_ok]
  rfl
theorem cvUint (k : Nat) (hk : k < 64) (w : World) : (convert 3 54 (.int .i64 (k : Int))).run Tryd.prog w = .ok (.int .u64 (k : Int)) w := by
  have h : IntKind.u64.wrap (k : Int) = (k : Int) := by rw [IntKind.wrap_u64]; omega
  go_simp
theorem shr32 (x y : Operand) (m k : Nat) (hk : k < 32) (w : World) : (do eqGuard .shr 53 x y (.int .u32 (m : Int)) (.int .u64 (k : Int)); binOp .shr 53 (.int .u32 (m : Int)) (.int .u64 (k : Int)) : Sem Value).run Tryd.prog w = .ok (.int .u32 ((m : Int) / 2 ^ k)) w := by
  go_simp
theorem and32 (x y : Operand) (a : Int) (w : World) : (do eqGuard .and 53 x y (.int .u32 a) (.int .u32 1); binOp .and 53 (.int .u32 a) (.int .u32 1) : Sem Value).run Tryd.prog w = .ok (.int .u32 (bits .and .u32 a 1)) w := by
  go_simp
theorem eq32 (x y : Operand) (m k : Nat) (hm : m < 4294967296) (w : World) : (do eqGuard .eql 53 x y (.int .u32 (bits .and .u32 ((m : Int) / 2 ^ k) 1)) (.int .u32 1); binOp .eql 53 (.int .u32 (bits .and .u32 ((m : Int) / 2 ^ k) 1)) (.int .u32 1) : Sem Value).run Tryd.prog w = .ok (.bool (decide (m / 2 ^ k % 2 = 1))) w := by
  rw [← Wi.bit_test m k hm]
  go_simp
theorem mul8 (x y : Operand) (n : Nat) (hn : n ≤ 1000000) (w : World) : (do eqGuard .mul 3 x y (.int .i64 8) (.int .i64 (n : Int)); binOp .mul 3 (.int .i64 8) (.int .i64 (n : Int)) : Sem Value).run Tryd.prog w = .ok (.int .i64 ((8 * n : Nat) : Int)) w := by
  have h : IntKind.i64.wrap (8 * (n : Int)) = ((8 * n : Nat) : Int) := by rw [IntKind.wrap_i64]; omega
  go_simp
theorem sub8 (x y : Operand) (n j : Nat) (hn : n ≤ 100000000) (hj : j ≤ n) (w : World) : (do eqGuard .sub 3 x y (.int .i64 (n : Int)) (.int .i64 (j : Int)); binOp .sub 3 (.int .i64 (n : Int)) (.int .i64 (j : Int)) : Sem Value).run Tryd.prog w = .ok (.int .i64 ((n - j : Nat) : Int)) w := by
  have h : IntKind.i64.wrap ((n : Int) - (j : Int)) = ((n - j : Nat) : Int) := by rw [IntKind.wrap_i64]; omega
  go_simp
theorem addN (x y : Operand) (n j : Nat) (hn : n + j ≤ 100000000) (w : World) : (do eqGuard .add 3 x y (.int .i64 (n : Int)) (.int .i64 (j : Int)); binOp .add 3 (.int .i64 (n : Int)) (.int .i64 (j : Int)) : Sem Value).run Tryd.prog w = .ok (.int .i64 ((n + j : Nat) : Int)) w := by
  have h : IntKind.i64.wrap ((n : Int) + (j : Int)) = ((n + j : Nat) : Int) := by rw [IntKind.wrap_i64]; omega
  go_simp
theorem quo8 (x y : Operand) (n : Nat) (hn : n ≤ 100000000) (w : World) : (do eqGuard .quo 3 x y (.int .i64 (n : Int)) (.int .i64 8); binOp .quo 3 (.int .i64 (n : Int)) (.int .i64 8) : Sem Value).run Tryd.prog w = .ok (.int .i64 ((n / 8 : Nat) : Int)) w := by
  have h : IntKind.i64.wrap ((n : Int) / 8) = (n : Int) / 8 := by rw [IntKind.wrap_i64]; omega
  go_simp
theorem rem8 (x y : Operand) (n : Nat) (hn : n ≤ 100000000) (w : World) : (do eqGuard .rem 3 x y (.int .i64 (n : Int)) (.int .i64 8); binOp .rem 3 (.int .i64 (n : Int)) (.int .i64 8) : Sem Value).run Tryd.prog w = .ok (.int .i64 ((n % 8 : Nat) : Int)) w := by
  go_simp
  exact Int.tmod_eq_emod_of_nonneg (by omega)
theorem shl8 (x y : Operand) (k : Nat) (hk : k < 8) (w : World) : (do eqGuard .shl 5 x y (.int .u8 1) (.int .u64 (k : Int)); binOp .shl 5 (.int .u8 1) (.int .u64 (k : Int)) : Sem Value).run Tryd.prog w = .ok (.int .u8 ((2 : Int) ^ k % 256)) w := by
  go_simp
  rw [IntKind.wrap_u8]
theorem xor8 (x y : Operand) (z : Int) (k : Nat) (hk : k < 8) (h0 : 0 ≤ z) (h1 : z < 256) (w : World) : (do eqGuard .xor 5 x y (.int .u8 z) (.int .u8 ((2 : Int) ^ k % 256)); binOp .xor 5 (.int .u8 z) (.int .u8 ((2 : Int) ^ k % 256)) : Sem Value).run Tryd.prog w = .ok (.int .u8 ((z.toNat ^^^ 2 ^ k : Nat) : Int)) w := by
  rw [← Wi.store_val z k hk h0 h1]
  go_simp
theorem ixB8 (g j n cu : Nat) (hj : j < n) (w : World) : (Instr.indexAt 39 (.slice (some ⟨g, 0, none⟩) n cu) (.int .i64 (j : Int))).run Tryd.prog w = .ok (.pointer (some ⟨g, j, none⟩)) w := by
  have h1 : (j : Int) < (n : Int) := by omega
  go_simp
theorem ldB8 {w : World} {g j : Nat} {b : Int} (h : w.cell? ⟨g, j, none⟩ = some (.int .u8 b)) : (Instr.loadAt 5 (.pointer (some ⟨g, j, none⟩))).run Tryd.prog w = .ok (.int .u8 b) w := by
  go_simp
theorem stB8 {w : World} {g j : Nat} {b : Int} (h : w.cell? ⟨g, j, none⟩ = some (.int .u8 b)) (hf : w.frozen? ⟨g, j, none⟩ = false) (z : Int) : (Instr.storeAt 5 (.pointer (some ⟨g, j, none⟩)) (.int .u8 z)).run Tryd.prog w = .ok () (w.setCell ⟨g, j, none⟩ (.int .u8 z)) := by
  go_simp
end Go.Proofs.YtabiimmpjllcpaaDoor
