import Derived.Test.YtphdnmamopgelaaGreatW14
set_option maxRecDepth 100000
set_option linter.unusedVariables false
set_option linter.unusedSimpArgs false
namespace Go.Proofs.YtphdnmamopgelaaGreat
open Go.RowKit Go.Maps Go.Shelf
open Classical
def Bl.Cps (B : Nat) (w : World) (L R : List Bl) : Prop := R.length = L.length ∧ ∀ (i : Nat) (x y : Bl), L[i]? = some x → R[i]? = some y → Bl.Like x y ∧ OwnY yE B w (.slice y.s.a y.s.D.length y.s.c) y.s.D ∧ y.s.D.length * 48 ≤ 281474976710656
theorem Bl.Cps.bel {B : Nat} {w w' : World} {L R : List Bl} (h : Bl.Cps B w L R) (hb : Below w.heap.size w w') : Bl.Cps B w' L R := ⟨h.1, fun i x y hx hy => ⟨(h.2 i x y hx hy).1, (h.2 i x y hx hy).2.1.grow hb, (h.2 i x y hx hy).2.2⟩⟩
theorem Bl.Cps.low {B B' : Nat} {w : World} {L R : List Bl} (h : Bl.Cps B w L R) (hB : B' ≤ B) : Bl.Cps B' w L R := ⟨h.1, fun i x y hx hy => ⟨(h.2 i x y hx hy).1, (h.2 i x y hx hy).2.1.low hB, (h.2 i x y hx hy).2.2⟩⟩
theorem Bl.Cps.set8 {B q : Nat} {w w' : World} {L R : List Bl} (h : Bl.Cps B w L R) (u : Upd (fun k => k = q) w w') (hq : q < B) : Bl.Cps B w' L R := ⟨h.1, fun i x y hx hy => ⟨(h.2 i x y hx hy).1, (h.2 i x y hx hy).2.1.upd1 u (fun k hk e => by have := ((h.2 i x y hx hy).2.1.blk k hk).1; omega), (h.2 i x y hx hy).2.2⟩⟩
theorem Bl.Cps.row {B B' : Nat} {w w' : World} {L R : List Bl} {v : Value} {Z : List Bl} (h : Bl.Cps B w L R) (ho : OwnY yBlA B' w v Z) (hg : w.grownBy w' v.ownBlock) : Bl.Cps B w' L R := ⟨h.1, fun i x y hx hy => ⟨(h.2 i x y hx hy).1, (h.2 i x y hx hy).2.1.grownZ ho (by decide) hg, (h.2 i x y hx hy).2.2⟩⟩
theorem Bl.Cps.in8 {B : Nat} {w : World} {L R : List Bl} (h : Bl.Cps B w L R) : ∀ y ∈ R, y.In w := fun y hy => by
  obtain ⟨i, hi, rfl⟩ := List.mem_iff_getElem.1 hy
  have hl : i < L.length := by rw [← h.1]; exact hi
  obtain ⟨_, o, hb⟩ := h.2 i _ _ (List.getElem?_eq_getElem hl) (List.getElem?_eq_getElem hi)
  exact ⟨o.sl' kE, hb⟩
theorem Bl.Cps.nil (B : Nat) (w : World) : Bl.Cps B w [] [] := ⟨rfl, fun i x y hx => by simp at hx⟩
theorem Bl.Cps.snoc {B : Nat} {w : World} {L R : List Bl} {x y : Bl} (h : Bl.Cps B w L R) (hy : Bl.Like x y ∧ OwnY yE B w (.slice y.s.a y.s.D.length y.s.c) y.s.D ∧ y.s.D.length * 48 ≤ 281474976710656) : Bl.Cps B w (L ++ [x]) (R ++ [y]) := by
  refine ⟨by simp [h.1], fun i a b ha hb => ?_⟩
  by_cases hi : i < L.length
  · rw [List.getElem?_append_left hi] at ha
    rw [List.getElem?_append_left (by rw [h.1]; exact hi)] at hb
    exact h.2 i a b ha hb
  · rw [List.getElem?_append_right (by omega)] at ha
    rw [List.getElem?_append_right (by rw [h.1]; omega), h.1] at hb
    have h0 : i - L.length = 0 := by
      have := (List.getElem?_eq_some_iff.1 ha).1
      simp at this
      omega
    rw [h0] at ha hb
    simp at ha hb
    subst ha hb
    exact hy
theorem bsBl9 (x : Bl) (w : World) : (Instr.buildSlice 30 1 #[(0, x.val)]).run Tryz.prog w = .ok (.slice (some ⟨w.heap.size, 0, none⟩) 1 1) (w.alloc (.cells (yBlA.cs x).toArray 59)) := by
  unfold Bl.val
  go_simp
  first | done | rfl
theorem ldbBl9 {w : World} {q : Nat} {x : Bl} (h : BX7 w q x.cs) : (Instr.loadAt 59 (.pointer (some ⟨q, 0, none⟩))).run Tryz.prog w = .ok x.val w := ldBl9 (o := 0) (fun k u hu => by rw [Nat.zero_add]; exact h.cell k u hu)
def An.Cps (B : Nat) (w : World) (L R : List An) : Prop := R.length = L.length ∧ ∀ (i : Nat) (x y : An), L[i]? = some x → R[i]? = some y → An.Like x y ∧ OwnY yE B w (.slice y.s.a y.s.D.length y.s.c) y.s.D ∧ y.s.D.length * 48 ≤ 281474976710656
theorem An.Cps.bel {B : Nat} {w w' : World} {L R : List An} (h : An.Cps B w L R) (hb : Below w.heap.size w w') : An.Cps B w' L R := ⟨h.1, fun i x y hx hy => ⟨(h.2 i x y hx hy).1, (h.2 i x y hx hy).2.1.grow hb, (h.2 i x y hx hy).2.2⟩⟩
theorem An.Cps.low {B B' : Nat} {w : World} {L R : List An} (h : An.Cps B w L R) (hB : B' ≤ B) : An.Cps B' w L R := ⟨h.1, fun i x y hx hy => ⟨(h.2 i x y hx hy).1, (h.2 i x y hx hy).2.1.low hB, (h.2 i x y hx hy).2.2⟩⟩
theorem An.Cps.set8 {B q : Nat} {w w' : World} {L R : List An} (h : An.Cps B w L R) (u : Upd (fun k => k = q) w w') (hq : q < B) : An.Cps B w' L R := ⟨h.1, fun i x y hx hy => ⟨(h.2 i x y hx hy).1, (h.2 i x y hx hy).2.1.upd1 u (fun k hk e => by have := ((h.2 i x y hx hy).2.1.blk k hk).1; omega), (h.2 i x y hx hy).2.2⟩⟩
theorem An.Cps.row {B B' : Nat} {w w' : World} {L R : List An} {v : Value} {Z : List An} (h : An.Cps B w L R) (ho : OwnY yAnA B' w v Z) (hg : w.grownBy w' v.ownBlock) : An.Cps B w' L R := ⟨h.1, fun i x y hx hy => ⟨(h.2 i x y hx hy).1, (h.2 i x y hx hy).2.1.grownZ ho (by decide) hg, (h.2 i x y hx hy).2.2⟩⟩
theorem An.Cps.in8 {B : Nat} {w : World} {L R : List An} (h : An.Cps B w L R) : ∀ y ∈ R, y.In w := fun y hy => by
  obtain ⟨i, hi, rfl⟩ := List.mem_iff_getElem.1 hy
  have hl : i < L.length := by rw [← h.1]; exact hi
  obtain ⟨_, o, hb⟩ := h.2 i _ _ (List.getElem?_eq_getElem hl) (List.getElem?_eq_getElem hi)
  exact ⟨o.sl' kE, hb⟩
theorem An.Cps.nil (B : Nat) (w : World) : An.Cps B w [] [] := ⟨rfl, fun i x y hx => by simp at hx⟩
theorem An.Cps.snoc {B : Nat} {w : World} {L R : List An} {x y : An} (h : An.Cps B w L R) (hy : An.Like x y ∧ OwnY yE B w (.slice y.s.a y.s.D.length y.s.c) y.s.D ∧ y.s.D.length * 48 ≤ 281474976710656) : An.Cps B w (L ++ [x]) (R ++ [y]) := by
  refine ⟨by simp [h.1], fun i a b ha hb => ?_⟩
  by_cases hi : i < L.length
  · rw [List.getElem?_append_left hi] at ha
    rw [List.getElem?_append_left (by rw [h.1]; exact hi)] at hb
    exact h.2 i a b ha hb
  · rw [List.getElem?_append_right (by omega)] at ha
    rw [List.getElem?_append_right (by rw [h.1]; omega), h.1] at hb
    have h0 : i - L.length = 0 := by
      have := (List.getElem?_eq_some_iff.1 ha).1
      simp at this
      omega
    rw [h0] at ha hb
    simp at ha hb
    subst ha hb
    exact hy
theorem bsAn9 (x : An) (w : World) : (Instr.buildSlice 31 1 #[(0, x.val)]).run Tryz.prog w = .ok (.slice (some ⟨w.heap.size, 0, none⟩) 1 1) (w.alloc (.cells (yAnA.cs x).toArray 61)) := by
  unfold An.val
  go_simp
  first | done | rfl
theorem ldbAn9 {w : World} {q : Nat} {x : An} (h : BX7 w q x.cs) : (Instr.loadAt 61 (.pointer (some ⟨q, 0, none⟩))).run Tryz.prog w = .ok x.val w := ldAn9 (o := 0) (fun k u hu => by rw [Nat.zero_add]; exact h.cell k u hu)
structure Sta.Cp (t : Sta) (B : Nat) (s : Sta) (w : World) : Prop where
  self : t.self = s.self
  st : t.st = s.st
  view : t.view = s.view
  last : t.last = s.last
  commit : t.commit = s.commit
  idle : t.idle = s.idle
  l : t.L = s.L
  v : t.V = s.V
  a : t.A = s.A
  m : t.M = s.M
  b : Bl.Cps B w s.B t.B
  n : An.Cps B w s.N t.N
  inn : t.In w
theorem Sta.Cp.later8 {t : Sta} {B : Nat} {s : Sta} {w w' : World} (h : t.Cp B s w) (hb : Below w.heap.size w w') : t.Cp B s w' :=
  ⟨h.self, h.st, h.view, h.last, h.commit, h.idle, h.l, h.v, h.a, h.m, h.b.bel hb, h.n.bel hb, h.inn.later hb⟩
theorem Sta.Cp.low8 {t : Sta} {B B' : Nat} {s : Sta} {w : World} (h : t.Cp B s w) (hB : B' ≤ B) : t.Cp B' s w :=
  ⟨h.self, h.st, h.view, h.last, h.commit, h.idle, h.l, h.v, h.a, h.m, h.b.low hB, h.n.low hB, h.inn⟩
theorem Sta.Cp.set8 {t : Sta} {B q : Nat} {s : Sta} {w w' : World} (h : t.Cp B s w) (u : Upd (fun k => k = q) w w') (hq : q < B) (hlo : t.Lo B) : t.Cp B s w' :=
  ⟨h.self, h.st, h.view, h.last, h.commit, h.idle, h.l, h.v, h.a, h.m, h.b.set8 u hq, h.n.set8 u hq, ⟨h.inn.l.upd u (fun x hx _ => by have := hlo.l x hx; omega), h.inn.v.upd u (fun x hx _ => by have := hlo.v x hx; omega), h.inn.a.upd u (fun x hx _ => by have := hlo.a x hx; omega), h.inn.m.upd u (fun x hx _ => by have := hlo.m x hx; omega), h.inn.b.upd u (fun x hx _ => by have := hlo.b x hx; omega), h.inn.n.upd u (fun x hx _ => by have := hlo.n x hx; omega), (h.b.set8 u hq).in8, (h.n.set8 u hq).in8⟩⟩
theorem OwnY.set9 {α : Type} {Y : Lay α} {B q : Nat} {w w' : World} {v : Value} {l : List α} (h : OwnY Y B w v l) (u : Upd (fun k => k = q) w w') (hq : q < B) : OwnY Y B w' v l := h.upd1 u (fun k hk e => by have := (h.blk k hk).1; omega)
structure Sta.Ow (t : Sta) (B : Nat) (w : World) : Prop where
  l : OwnY yE B w (.slice t.la t.L.length t.lc) t.L
  v : OwnY yD B w (.slice t.va t.V.length t.vc) t.V
  a : OwnY yAkA B w (.slice t.ka t.A.length t.kc) t.A
  m : OwnY yMkA B w (.slice t.ma t.M.length t.mc) t.M
  b : OwnY yBlA B w (.slice t.ba t.B.length t.bc) t.B
  n : OwnY yAnA B w (.slice t.na t.N.length t.nc) t.N
set_option maxHeartbeats 1000000 in
theorem copystate9o (s : Sta) (w : World) (hI : s.In w) (hF : s.Fit) (hb1 : ∀ x ∈ s.B, x.s.D.length * 48 ≤ 140737488351232) (hb2 : ∀ x ∈ s.N, x.s.D.length * 48 ≤ 140737488351232) : Calls Tryz.prog 13 #[s.val] w fun e w' => ∃ t : Sta, e = .returned t.val ∧ t.Cp w.heap.size s w' ∧ t.Lo w.heap.size ∧ t.Ow w.heap.size w' ∧ Below w.heap.size w w' := by
  go_enter Tryz.func13, Tryz.ntmps13
  go_upto_region 0 with fail
  refine wp_region_lit ?_
  refine vl_gen (fun T => T.size = 70 ∧ T[0]? = some (gw true (s.val))) ⟨rfl, rfl⟩ (fun Z0 ⟨hz, s0⟩ => ?_)
  obtain ⟨w1, hw1⟩ : ∃ y, y = w.alloc (.cells s.cs.toArray 33) := ⟨_, rfl⟩
  have hb : Below w.heap.size w w1 := by rw [hw1]; exact (Below.refl _ _).alloc (Nat.le_refl _) _
  have hs1 : w1.heap.size = w.heap.size + 1 := by rw [hw1]; simp
  have HS : SB7 w1 (w.heap.size) s := by rw [hw1]; exact BX7.new _ _ _
  refine vw (.pointer (some ⟨w.heap.size, 0, none⟩)) w1 (want_none rfl) (ex_box8 rfl (ev s0 rfl) (by rw [hw1]; exact bxS7 _ _)) rfl hz (by decide) (fun Z1 zz kk s1x => ?_)
  clear kk hz s0 hw1
  have hz := zz
  have s1 := s1x
  clear zz s1x
  have hB := hb
  clear hb
  have hv0 : Below w1.heap.size w1 w1 := Below.refl _ _
  obtain ⟨w2, hw2⟩ : ∃ y, y = w1.alloc (.cells zS8.cs.toArray 33) := ⟨_, rfl⟩
  have hb : Below w1.heap.size w1 w2 := by rw [hw2]; exact (Below.refl _ _).alloc (Nat.le_refl _) _
  have HZ : SB7 w2 (w.heap.size + 1) zS8 := by rw [hw2, ← hs1]; exact BX7.new _ _ _
  have hz2 : w2.heap.size = w.heap.size + 2 := by rw [hw2]; simp; omega
  refine vw (.pointer (some ⟨w.heap.size + 1, 0, none⟩)) w2 (want_none rfl) (ex_al rfl (by rw [hw2, ← hs1]; exact al12 _)) rfl hz (by decide) (fun Ya zz kk s2 => ?_)
  replace s1 := ku s1
  replace hz := zz
  clear kk zz
  refine wpList_nil ?_
  have hB2 : Below w.heap.size w w2 := hB.trans (hb.mono (by omega))
  have HS := HS.bel hb
  clear hb hw2 hv0 hB
  have hB := hB2
  clear hB2
  have f1 := hF.ll
  have f2 := hF.al
  have f3 := hF.ml
  have f4 := hF.bl
  have f5 := hF.nl
  have f6 := hF.vl
  have hzB : w2.heap.size ≤ w2.heap.size := Nat.le_refl _
  go_upto_region 1 with fail
  refine wp_region_lit ?_
  refine vt (.pointer (some ⟨w.heap.size, 4, none⟩)) (ex_fa rfl (ev s1 rfl) (faS4 _ _)) hz (fun Yb zz kk s9 => ?_)
  replace s1 := ku s1
  replace s2 := ku s2
  replace hz := zz
  clear kk zz
  refine vt (.slice s.la s.L.length s.lc) (ex_ld rfl (ev s9 rfl) (ldE8 (HS.cell 4 _ rfl))) hz (fun Yc zz kk s10 => ?_)
  replace s1 := ku s1
  replace s2 := ku s2
  replace hz := zz
  clear kk zz s9 Yb
  refine vcallP (want_none rfl) (ex_call rfl (by simp only [List.map_toArray, List.map_cons, List.map_nil, (ev s10 rfl), evc] <;> rfl) rfl) (copyent_any s.la _ s.lc s.L w2 (hI.later hB).l (by omega)) rfl hz (by decide) ?_
  rintro e x4 ⟨v4, rfl, o4, b4⟩; obtain ⟨a4, c4, rfl, _, _⟩ := o4.sl kE
  refine ⟨_, rfl, fun Yd zz kk s11 => ?_⟩
  have p4 := Fr8.of_own (B := w2.heap.size) kE o4 hzB
  have o4 := o4.low hzB
  have HS := HS.bel b4
  have HZ := HZ.bel b4
  have hB := hB.trans (b4.mono (by omega))
  have hzB := Nat.le_trans hzB b4.size
  clear b4
  replace s1 := ku s1
  replace s2 := ku s2
  replace hz := zz
  clear kk zz s10 Yc
  refine vt (.pointer (some ⟨w.heap.size, 4, none⟩)) (ex_fa rfl (ev s1 rfl) (faS4 _ _)) hz (fun Ye zz kk s12 => ?_)
  replace s1 := ku s1
  replace s2 := ku s2
  replace s11 := ku s11
  replace hz := zz
  clear kk zz Yd
  refine vs (x4.setCell ⟨w.heap.size, 4, none⟩ (.slice a4 s.L.length c4)) (want_none rfl) (ex_st rfl (ev s12 rfl) (ev s11 rfl) (stE8 (HS.cell 4 _ rfl) (HS.free 4) _ _ _)) rfl ?_
  have US : Upd (fun k => k = w.heap.size) x4 (x4.setCell ⟨w.heap.size, 4, none⟩ (.slice a4 s.L.length c4)) := (Upd.refl (fun k => k = w.heap.size) _).setCell (p := ⟨w.heap.size, 4, none⟩) (.inl rfl) _
  have HSn := HS.set (j := 4) (by simp [Sta.cs]) (.slice a4 s.L.length c4)
  obtain ⟨y4, hy4⟩ : ∃ v, v = (x4.setCell ⟨w.heap.size, 4, none⟩ (.slice a4 s.L.length c4)) := ⟨_, rfl⟩
  rw [← hy4] at US HSn ⊢
  clear hy4 HS
  have HS : SB7 y4 (w.heap.size) { s with la := a4, lc := c4 } := HSn
  clear HSn
  have HZ := HZ.upd US (by show ¬ w.heap.size + 1 = w.heap.size; omega)
  have hB := hB.trans (US.below hB.size (fun k hk => by omega))
  have p4 := p4.set US (by omega)
  have o4 := o4.set9 US (by omega)
  have hzB := Nat.le_trans hzB US.size
  clear US
  clear s11 s12
  refine wpList_nil ?_
  go_upto_region 2 with fail
  refine wp_region_lit ?_
  refine vt (.pointer (some ⟨w.heap.size, 6, none⟩)) (ex_fa rfl (ev s1 rfl) (faS6 _ _)) hz (fun Yf zz kk s13 => ?_)
  replace s1 := ku s1
  replace s2 := ku s2
  replace hz := zz
  clear kk zz
  refine vt (.slice s.va s.V.length s.vc) (ex_ld rfl (ev s13 rfl) (ldV8 (HS.cell 6 _ rfl))) hz (fun Yg zz kk s14 => ?_)
  replace s1 := ku s1
  replace s2 := ku s2
  replace hz := zz
  clear kk zz s13 Yf
  refine vcallP (want_none rfl) (ex_call rfl (by simp only [List.map_toArray, List.map_cons, List.map_nil, (ev s14 rfl), evc] <;> rfl) rfl) (copyvecY s.va _ s.vc s.V y4 (hI.later hB).v (by omega)) rfl hz (by decide) ?_
  rintro e x6 ⟨v6, rfl, o6, b6⟩; obtain ⟨a6, c6, rfl, _, _⟩ := o6.sl kD
  refine ⟨_, rfl, fun Yh zz kk s15 => ?_⟩
  have p6 := Fr8.of_own (B := w2.heap.size) kD o6 hzB
  have o6 := o6.low hzB
  have HS := HS.bel b6
  have HZ := HZ.bel b6
  have hB := hB.trans (b6.mono (by omega))
  have p4 := p4.later b6
  have o4 := o4.grow b6
  have hzB := Nat.le_trans hzB b6.size
  clear b6
  replace s1 := ku s1
  replace s2 := ku s2
  replace hz := zz
  clear kk zz s14 Yg
  refine vt (.pointer (some ⟨w.heap.size, 6, none⟩)) (ex_fa rfl (ev s1 rfl) (faS6 _ _)) hz (fun Yi zz kk s16 => ?_)
  replace s1 := ku s1
  replace s2 := ku s2
  replace s15 := ku s15
  replace hz := zz
  clear kk zz Yh
  refine vs (x6.setCell ⟨w.heap.size, 6, none⟩ (.slice a6 s.V.length c6)) (want_none rfl) (ex_st rfl (ev s16 rfl) (ev s15 rfl) (stV8 (HS.cell 6 _ rfl) (HS.free 6) _ _ _)) rfl ?_
  have US : Upd (fun k => k = w.heap.size) x6 (x6.setCell ⟨w.heap.size, 6, none⟩ (.slice a6 s.V.length c6)) := (Upd.refl (fun k => k = w.heap.size) _).setCell (p := ⟨w.heap.size, 6, none⟩) (.inl rfl) _
  have HSn := HS.set (j := 6) (by simp [Sta.cs]) (.slice a6 s.V.length c6)
  obtain ⟨y6, hy6⟩ : ∃ v, v = (x6.setCell ⟨w.heap.size, 6, none⟩ (.slice a6 s.V.length c6)) := ⟨_, rfl⟩
  rw [← hy6] at US HSn ⊢
  clear hy6 HS
  have HS : SB7 y6 (w.heap.size) { s with la := a4, lc := c4, va := a6, vc := c6 } := HSn
  clear HSn
  have HZ := HZ.upd US (by show ¬ w.heap.size + 1 = w.heap.size; omega)
  have hB := hB.trans (US.below hB.size (fun k hk => by omega))
  have p4 := p4.set US (by omega)
  have o4 := o4.set9 US (by omega)
  have p6 := p6.set US (by omega)
  have o6 := o6.set9 US (by omega)
  have hzB := Nat.le_trans hzB US.size
  clear US
  clear s15 s16
  refine wpList_nil ?_
  go_upto_region 3 with fail
  refine wp_region_lit ?_
  refine vt (.pointer (some ⟨w.heap.size, 8, none⟩)) (ex_fa rfl (ev s1 rfl) (faS8 _ _)) hz (fun Yj zz kk s17 => ?_)
  replace s1 := ku s1
  replace s2 := ku s2
  replace hz := zz
  clear kk zz
  refine vt (.slice s.ka s.A.length s.kc) (ex_ld rfl (ev s17 rfl) (ldK8 (HS.cell 8 _ rfl))) hz (fun Yk zz kk s18 => ?_)
  replace s1 := ku s1
  replace s2 := ku s2
  replace hz := zz
  clear kk zz s17 Yj
  obtain ⟨v8, x8, hr8, o8, g8, _⟩ := run_appY kAkA y6 28 y6.heap.size [] (.slice none 0 0) _ _ _ _ (hI.later hB).a (OwnY.nil _ _ _) (Nat.le_refl _) (by unfold maxLen; simp; omega) (by show (0 + s.A.length) * 32 ≤ _; omega)
  have b8 : Below y6.heap.size y6 x8 := (OwnY.nil yAkA y6.heap.size y6).grown (Below.refl _ _) g8 (Nat.le_refl _)
  rw [List.nil_append] at o8
  obtain ⟨a8, c8, rfl, _, _⟩ := o8.sl kAkA
  have p8 := Fr8.of_own (B := w2.heap.size) kAkA o8 hzB
  have o8 := o8.low hzB
  refine vw (.slice a8 s.A.length c8) x8 (want_none rfl) (ex_app8 rfl rfl (ev s18 rfl) hr8) rfl hz (by decide) (fun Yl zz kk s19 => ?_)
  clear hr8 g8
  have HS := HS.bel b8
  have HZ := HZ.bel b8
  have hB := hB.trans (b8.mono (by omega))
  have p4 := p4.later b8
  have o4 := o4.grow b8
  have p6 := p6.later b8
  have o6 := o6.grow b8
  have hzB := Nat.le_trans hzB b8.size
  clear b8
  replace s1 := ku s1
  replace s2 := ku s2
  replace hz := zz
  clear kk zz s18 Yk
  refine vt (.pointer (some ⟨w.heap.size, 8, none⟩)) (ex_fa rfl (ev s1 rfl) (faS8 _ _)) hz (fun Ym zz kk s20 => ?_)
  replace s1 := ku s1
  replace s2 := ku s2
  replace s19 := ku s19
  replace hz := zz
  clear kk zz Yl
  refine vs (x8.setCell ⟨w.heap.size, 8, none⟩ (.slice a8 s.A.length c8)) (want_none rfl) (ex_st rfl (ev s20 rfl) (ev s19 rfl) (stK8 (HS.cell 8 _ rfl) (HS.free 8) _ _ _)) rfl ?_
  have US : Upd (fun k => k = w.heap.size) x8 (x8.setCell ⟨w.heap.size, 8, none⟩ (.slice a8 s.A.length c8)) := (Upd.refl (fun k => k = w.heap.size) _).setCell (p := ⟨w.heap.size, 8, none⟩) (.inl rfl) _
  have HSn := HS.set (j := 8) (by simp [Sta.cs]) (.slice a8 s.A.length c8)
  obtain ⟨y8, hy8⟩ : ∃ v, v = (x8.setCell ⟨w.heap.size, 8, none⟩ (.slice a8 s.A.length c8)) := ⟨_, rfl⟩
  rw [← hy8] at US HSn ⊢
  clear hy8 HS
  have HS : SB7 y8 (w.heap.size) { s with la := a4, lc := c4, va := a6, vc := c6, ka := a8, kc := c8 } := HSn
  clear HSn
  have HZ := HZ.upd US (by show ¬ w.heap.size + 1 = w.heap.size; omega)
  have hB := hB.trans (US.below hB.size (fun k hk => by omega))
  have p4 := p4.set US (by omega)
  have o4 := o4.set9 US (by omega)
  have p6 := p6.set US (by omega)
  have o6 := o6.set9 US (by omega)
  have p8 := p8.set US (by omega)
  have o8 := o8.set9 US (by omega)
  have hzB := Nat.le_trans hzB US.size
  clear US
  clear s19 s20
  refine wpList_nil ?_
  go_upto_region 4 with fail
  refine wp_region_lit ?_
  refine vt (.pointer (some ⟨w.heap.size, 9, none⟩)) (ex_fa rfl (ev s1 rfl) (faS9 _ _)) hz (fun Yn zz kk s21 => ?_)
  replace s1 := ku s1
  replace s2 := ku s2
  replace hz := zz
  clear kk zz
  refine vt (.slice s.ma s.M.length s.mc) (ex_ld rfl (ev s21 rfl) (ldM8 (HS.cell 9 _ rfl))) hz (fun Yo zz kk s22 => ?_)
  replace s1 := ku s1
  replace s2 := ku s2
  replace hz := zz
  clear kk zz s21 Yn
  obtain ⟨v9, x9, hr9, o9, g9, _⟩ := run_appY kMkA y8 29 y8.heap.size [] (.slice none 0 0) _ _ _ _ (hI.later hB).m (OwnY.nil _ _ _) (Nat.le_refl _) (by unfold maxLen; simp; omega) (by show (0 + s.M.length) * 24 ≤ _; omega)
  have b9 : Below y8.heap.size y8 x9 := (OwnY.nil yMkA y8.heap.size y8).grown (Below.refl _ _) g9 (Nat.le_refl _)
  rw [List.nil_append] at o9
  obtain ⟨a9, c9, rfl, _, _⟩ := o9.sl kMkA
  have p9 := Fr8.of_own (B := w2.heap.size) kMkA o9 hzB
  have o9 := o9.low hzB
  refine vw (.slice a9 s.M.length c9) x9 (want_none rfl) (ex_app8 rfl rfl (ev s22 rfl) hr9) rfl hz (by decide) (fun Yp zz kk s23 => ?_)
  clear hr9 g9
  have HS := HS.bel b9
  have HZ := HZ.bel b9
  have hB := hB.trans (b9.mono (by omega))
  have p4 := p4.later b9
  have o4 := o4.grow b9
  have p6 := p6.later b9
  have o6 := o6.grow b9
  have p8 := p8.later b9
  have o8 := o8.grow b9
  have hzB := Nat.le_trans hzB b9.size
  clear b9
  replace s1 := ku s1
  replace s2 := ku s2
  replace hz := zz
  clear kk zz s22 Yo
  refine vt (.pointer (some ⟨w.heap.size, 9, none⟩)) (ex_fa rfl (ev s1 rfl) (faS9 _ _)) hz (fun Yq zz kk s24 => ?_)
  replace s1 := ku s1
  replace s2 := ku s2
  replace s23 := ku s23
  replace hz := zz
  clear kk zz Yp
  refine vs (x9.setCell ⟨w.heap.size, 9, none⟩ (.slice a9 s.M.length c9)) (want_none rfl) (ex_st rfl (ev s24 rfl) (ev s23 rfl) (stM8 (HS.cell 9 _ rfl) (HS.free 9) _ _ _)) rfl ?_
  have US : Upd (fun k => k = w.heap.size) x9 (x9.setCell ⟨w.heap.size, 9, none⟩ (.slice a9 s.M.length c9)) := (Upd.refl (fun k => k = w.heap.size) _).setCell (p := ⟨w.heap.size, 9, none⟩) (.inl rfl) _
  have HSn := HS.set (j := 9) (by simp [Sta.cs]) (.slice a9 s.M.length c9)
  obtain ⟨y9, hy9⟩ : ∃ v, v = (x9.setCell ⟨w.heap.size, 9, none⟩ (.slice a9 s.M.length c9)) := ⟨_, rfl⟩
  rw [← hy9] at US HSn ⊢
  clear hy9 HS
  have HS : SB7 y9 (w.heap.size) { s with la := a4, lc := c4, va := a6, vc := c6, ka := a8, kc := c8, ma := a9, mc := c9 } := HSn
  clear HSn
  have HZ := HZ.upd US (by show ¬ w.heap.size + 1 = w.heap.size; omega)
  have hB := hB.trans (US.below hB.size (fun k hk => by omega))
  have p4 := p4.set US (by omega)
  have o4 := o4.set9 US (by omega)
  have p6 := p6.set US (by omega)
  have o6 := o6.set9 US (by omega)
  have p8 := p8.set US (by omega)
  have o8 := o8.set9 US (by omega)
  have p9 := p9.set US (by omega)
  have o9 := o9.set9 US (by omega)
  have hzB := Nat.le_trans hzB US.size
  clear US
  clear s23 s24
  refine wpList_nil ?_
  go_upto_region 5 with fail
  refine wp_region_lit ?_
  refine vt (.slice none 0 0) (ex_assign rfl rfl) hz (fun Yr zz kk s3 => ?_)
  replace s1 := ku s1
  replace s2 := ku s2
  replace hz := zz
  clear kk zz
  refine wpList_nil ?_
  go_upto_region 6 with fail
  refine wp_region_lit ?_
  refine vt (.int .i64 0) (ex_assign rfl rfl) hz (fun Ys zz kk s4 => ?_)
  replace s1 := ku s1
  replace s2 := ku s2
  replace s3 := ku s3
  replace hz := zz
  clear kk zz
  refine wpList_nil ?_
  have hsv : _ = some (gw true (.int .i64 ((0 : Nat) : Int))) := s4
  go_upto_region 7 with fail
  refine v_loop 4 s.B.length (fun i T wr => T.size = 70 ∧ T[1]? = some (gw true (.pointer (some ⟨w.heap.size, 0, none⟩))) ∧ T[2]? = some (gw true (.pointer (some ⟨w.heap.size + 1, 0, none⟩))) ∧ T[4]? = some (gw true (.int .i64 (i : Int))) ∧ Hid (∃ vb R, T[3]? = some (gw true vb) ∧ OwnY yBlA y9.heap.size wr vb R ∧ Bl.Cps y9.heap.size wr (s.B.take i) R ∧ Below y9.heap.size y9 wr)) (fun i T w h => h.2.2.2.1) ⟨hz, s1, s2, hsv, _, _, s3, OwnY.nil _ _ _, Bl.Cps.nil _ _, Below.refl _ _⟩ ?_
  clear hz s1 s2 s4 s3 hsv
  intro i R10 wr hi hh
  obtain ⟨hz, s1, s2, s4, HJ⟩ := hh
  obtain ⟨vb, R, s3, oB, cB, hbr⟩ := HJ.out
  clear HJ
  have hzr := hbr.size
  have hBr := hB.trans (hbr.mono (by omega))
  have HSr := HS.bel hbr
  have HIr := (hI.later hBr).b
  by_cases hit : i < s.B.length
  · have d1 : decide ((i : Int) < (s.B.length : Int)) = true := decide_eq_true (by omega)
    go_upto_region 7 with fail
    refine wp_region_lit ?_
    refine vt _ (ex_move rfl (ev s4 rfl)) hz (fun Yt zz kk s25 => ?_)
    replace s1 := ku s1
    replace s2 := ku s2
    replace s3 := ku s3
    replace s4 := ku s4
    replace hz := zz
    clear kk zz
    refine vt (.pointer (some ⟨w.heap.size, 10, none⟩)) (ex_fa rfl (ev s1 rfl) (faS10 _ _)) hz (fun Yu zz kk s26 => ?_)
    replace s1 := ku s1
    replace s2 := ku s2
    replace s3 := ku s3
    replace s4 := ku s4
    replace s25 := ku s25
    replace hz := zz
    clear kk zz Yt
    refine vt (.slice s.ba s.B.length s.bc) (ex_ld rfl (ev s26 rfl) (ldB8 (HSr.cell 10 _ rfl))) hz (fun Yv zz kk s27 => ?_)
    replace s1 := ku s1
    replace s2 := ku s2
    replace s3 := ku s3
    replace s4 := ku s4
    replace s25 := ku s25
    replace hz := zz
    clear kk zz s26 Yu
    refine vt (.int .i64 (s.B.length : Int)) (ex_lenB8 rfl rfl (ev s27 rfl)) hz (fun Yw zz kk s28 => ?_)
    replace s1 := ku s1
    replace s2 := ku s2
    replace s3 := ku s3
    replace s4 := ku s4
    replace s25 := ku s25
    replace hz := zz
    clear kk zz s27 Yv
    refine vt (.bool true) (ex_bin rfl (ev s25 rfl) (ev s28 rfl) (lssD8 _ _ _ _ true d1 _)) hz (fun Yx zz kk s29 => ?_)
    replace s1 := ku s1
    replace s2 := ku s2
    replace s3 := ku s3
    replace s4 := ku s4
    replace hz := zz
    clear kk zz s25 s28 Yw
    refine wpList_nil ?_
    go_upto_region 9 with fail
    refine wp_cond_true ((ev s29 rfl).trans rfl) ?_
    clear s29 d1
    obtain ⟨x, hxi⟩ : ∃ x, s.B[i]? = some x := ⟨_, List.getElem?_eq_getElem hit⟩
    have hmem := List.mem_of_getElem? hxi
    obtain ⟨q, o, hqa, hq, hl⟩ := HIr.place (by intro e; rw [e] at hit; simp at hit)
    obtain ⟨e1, he1⟩ : ∃ y, y = wr.alloc (.cells zBl9.cs.toArray 59) := ⟨_, rfl⟩
    have hb : Below wr.heap.size wr e1 := by rw [he1]; exact (Below.refl _ _).alloc (Nat.le_refl _) _
    have HA : BX7 e1 wr.heap.size zBl9.cs := by rw [he1]; exact BX7.new _ _ _
    go_upto_region 9 with fail
    refine wp_region_lit ?_
    refine vt (.pointer (some ⟨w.heap.size, 10, none⟩)) (ex_fa rfl (ev s1 rfl) (faS10 _ _)) hz (fun Yy zz kk s32 => ?_)
    replace s1 := ku s1
    replace s2 := ku s2
    replace s3 := ku s3
    replace s4 := ku s4
    replace hz := zz
    clear kk zz
    refine vt (.slice s.ba s.B.length s.bc) (ex_ld rfl (ev s32 rfl) (ldB8 (HSr.cell 10 _ rfl))) hz (fun Yz zz kk s33 => ?_)
    replace s1 := ku s1
    replace s2 := ku s2
    replace s3 := ku s3
    replace s4 := ku s4
    replace hz := zz
    clear kk zz s32 Yy
    refine vt _ (ex_move rfl (ev s4 rfl)) hz (fun Y0 zz kk s34 => ?_)
    replace s1 := ku s1
    replace s2 := ku s2
    replace s3 := ku s3
    replace s4 := ku s4
    replace s33 := ku s33
    replace hz := zz
    clear kk zz Yz
    refine vt (.pointer (some ⟨q, o + i * 6, none⟩)) (ex_ix rfl (ev s33 rfl) (ev s34 rfl) (by rw [hqa]; exact ix9Bl q o s.B.length s.bc i hit _)) hz (fun Y1 zz kk s35 => ?_)
    replace s1 := ku s1
    replace s2 := ku s2
    replace s3 := ku s3
    replace s4 := ku s4
    replace hz := zz
    clear kk zz s33 s34 Y0
    refine vt (x.val) (ex_ld rfl (ev s35 rfl) (ldBl9 (fun k u hu => hl i x hxi k u hu))) hz (fun Y2 zz kk s36 => ?_)
    replace s1 := ku s1
    replace s2 := ku s2
    replace s3 := ku s3
    replace s4 := ku s4
    replace hz := zz
    clear kk zz s35 Y1
    refine vw (.pointer (some ⟨wr.heap.size, 0, none⟩)) e1 (want_none rfl) (ex_al rfl (by rw [he1]; exact alBl9 _)) rfl hz (by decide) (fun Y3 zz kk s5 => ?_)
    replace s1 := ku s1
    replace s2 := ku s2
    replace s3 := ku s3
    replace s4 := ku s4
    replace s36 := ku s36
    replace hz := zz
    clear kk zz Y2
    refine vs (sets e1 wr.heap.size 0 x.cs) (want_none rfl) (ex_st rfl (ev s5 rfl) (ev s36 rfl) (stBl9 HA x)) rfl ?_
    have HP := putBl9 HA x
    have UP := upBl9 e1 wr.heap.size x
    obtain ⟨e2, he2⟩ : ∃ v, v = sets e1 wr.heap.size 0 x.cs := ⟨_, rfl⟩
    rw [← he2] at HP UP ⊢
    have hby : Below wr.heap.size wr e2 := hb.trans (UP.below hb.size (fun k hk => by omega))
    clear he2 he1 HA UP hb hl
    have zy := hby.size
    have hqe := HP.lt
    clear s36
    refine wpList_nil ?_
    have xin := ((hI.later hBr).bl x hmem).1.later hby
    have xb := hb1 x hmem
    go_upto_region 10 with fail
    refine wp_region_lit ?_
    refine vt (.pointer (some ⟨wr.heap.size, 5, none⟩)) (ex_fa rfl (ev s5 rfl) (fb4Bl _ _)) hz (fun Y4 zz kk s37 => ?_)
    replace s1 := ku s1
    replace s2 := ku s2
    replace s3 := ku s3
    replace s4 := ku s4
    replace s5 := ku s5
    replace hz := zz
    clear kk zz
    refine vt (.slice x.s.a x.s.D.length x.s.c) (ex_ld rfl (ev s37 rfl) (ldE8 (HP.cell 5 _ rfl))) hz (fun Y5 zz kk s38 => ?_)
    replace s1 := ku s1
    replace s2 := ku s2
    replace s3 := ku s3
    replace s4 := ku s4
    replace s5 := ku s5
    replace hz := zz
    clear kk zz s37 Y4
    refine vcallP (want_none rfl) (ex_call rfl (by simp only [List.map_toArray, List.map_cons, List.map_nil, (ev s38 rfl), evc] <;> rfl) rfl) (copyent_any x.s.a _ x.s.c x.s.D e2 xin (by omega)) rfl hz (by decide) ?_
    rintro e e3 ⟨vl, rfl, ol, bl⟩; obtain ⟨al, cl, rfl, _, _⟩ := ol.sl kE
    refine ⟨_, rfl, fun Y6 zz kk s39 => ?_⟩
    have HP := HP.bel bl
    have zl := bl.size
    have hbz := hby.trans (bl.mono zy)
    clear bl hby
    replace s1 := ku s1
    replace s2 := ku s2
    replace s3 := ku s3
    replace s4 := ku s4
    replace s5 := ku s5
    replace hz := zz
    clear kk zz s38 Y5
    refine vt (.pointer (some ⟨wr.heap.size, 5, none⟩)) (ex_fa rfl (ev s5 rfl) (fb4Bl _ _)) hz (fun Y7 zz kk s40 => ?_)
    replace s1 := ku s1
    replace s2 := ku s2
    replace s3 := ku s3
    replace s4 := ku s4
    replace s5 := ku s5
    replace s39 := ku s39
    replace hz := zz
    clear kk zz Y6
    refine vs (e3.setCell ⟨wr.heap.size, 5, none⟩ (.slice al x.s.D.length cl)) (want_none rfl) (ex_st rfl (ev s40 rfl) (ev s39 rfl) (stE8 (HP.cell 5 _ rfl) (HP.free 5) _ _ _)) rfl ?_
    have HPn := HP.set (j := 5) (by simp [Bl.cs]) (.slice al x.s.D.length cl)
    have US : Upd (fun k => k = wr.heap.size) e3 (e3.setCell ⟨wr.heap.size, 5, none⟩ (.slice al x.s.D.length cl)) := (Upd.refl (fun k => k = wr.heap.size) _).setCell (p := ⟨wr.heap.size, 5, none⟩) (.inl rfl) _
    obtain ⟨e4, he4⟩ : ∃ v, v = e3.setCell ⟨wr.heap.size, 5, none⟩ (.slice al x.s.D.length cl) := ⟨_, rfl⟩
    rw [← he4] at HPn US ⊢
    clear he4 HP
    have HP : BX7 e4 wr.heap.size ({ x with s := ⟨al, cl, x.s.D⟩ } : Bl).cs := HPn
    clear HPn
    have ol := ol.upd1 US (fun k hk e => by have := (ol.blk k hk).1; omega)
    have hbz := hbz.trans (US.below (by omega) (fun k hk => by omega))
    have z4 := US.size
    clear US
    clear s39 s40
    refine wpList_nil ?_
    have oB := oB.grow hbz
    have cB := cB.bel hbz
    have hzz := hbz.size
    go_upto_region 11 with fail
    refine wp_region_lit ?_
    refine vt _ (ex_move rfl (ev s3 rfl)) hz (fun Y8 zz kk s41 => ?_)
    replace s1 := ku s1
    replace s2 := ku s2
    replace s3 := ku s3
    replace s4 := ku s4
    replace s5 := ku s5
    replace hz := zz
    clear kk zz
    refine vt (Bl.val ({ x with s := ⟨al, cl, x.s.D⟩ } : Bl)) (ex_ld rfl (ev s5 rfl) (ldbBl9 HP)) hz (fun Y9 zz kk s42 => ?_)
    replace s1 := ku s1
    replace s2 := ku s2
    replace s3 := ku s3
    replace s4 := ku s4
    replace s41 := ku s41
    replace hz := zz
    clear kk zz s5 Y8
    obtain ⟨e5, he5⟩ : ∃ v, v = e4.alloc (.cells (yBlA.cs ({ x with s := ⟨al, cl, x.s.D⟩ } : Bl)).toArray 59) := ⟨_, rfl⟩
    have b5 : Below e4.heap.size e4 e5 := by rw [he5]; exact (Below.refl _ _).alloc (Nat.le_refl _) _
    have p5 : SlY yBlA e5 (some ⟨e4.heap.size, 0, none⟩) 1 1 [({ x with s := ⟨al, cl, x.s.D⟩ } : Bl)] := by rw [he5]; exact one9 yBlA e4 ({ x with s := ⟨al, cl, x.s.D⟩ } : Bl)
    have z5 := b5.size
    have hlR : R.length = i := by rw [cB.1, List.length_take]; omega
    obtain ⟨vb2, e6, hr6, oB6, g6, _⟩ := run_appY kBlA e5 30 y9.heap.size _ vb _ _ _ _ p5 (oB.grow b5) (by omega) (by rw [hlR]; unfold maxLen; omega) (by rw [hlR]; show (i + 1) * 64 ≤ _; omega)
    have cB6 := (cB.bel b5).row (oB.grow b5) g6
    have ol6 := (ol.grow b5).grownZ (oB.grow b5) (by decide) g6
    have hb6 : Below y9.heap.size y9 e6 := (oB.grow b5).grown ((hbr.trans (hbz.mono (by omega))).trans (b5.mono (by omega))) g6 (by omega)
    refine vw (.slice (some ⟨e4.heap.size, 0, none⟩) 1 1) e5 (want_none rfl) (ex_bs8 rfl (ev s42 rfl) (by rw [he5]; exact bsBl9 ({ x with s := ⟨al, cl, x.s.D⟩ } : Bl) _)) rfl hz (by decide) (fun Yba zz kk s43 => ?_)
    replace s1 := ku s1
    replace s2 := ku s2
    replace s3 := ku s3
    replace s4 := ku s4
    replace s41 := ku s41
    replace hz := zz
    clear kk zz s42 Y9
    refine vw (vb2) e6 (want_none rfl) (ex_app8 rfl (ev s41 rfl) (ev s43 rfl) hr6) rfl hz (by decide) (fun Ybb zz kk s44 => ?_)
    clear hr6 g6 p5 he5
    replace s1 := ku s1
    replace s2 := ku s2
    replace s3 := ku s3
    replace s4 := ku s4
    replace hz := zz
    clear kk zz s41 s43 Yba
    refine vt _ (ex_assign rfl (ev s44 rfl)) hz (fun Ybc zz kk s3x => ?_)
    replace s1 := ku s1
    replace s2 := ku s2
    replace s4 := ku s4
    clear kk hz s44 s3
    have hz := zz
    have s3 := s3x
    clear zz s3x Ybb
    refine wpList_nil ?_
    go_upto_region 8 with fail
    refine wp_region_lit ?_
    refine vt _ (ex_move rfl (ev s4 rfl)) hz (fun Ybd zz kk s30 => ?_)
    replace s1 := ku s1
    replace s2 := ku s2
    replace s3 := ku s3
    replace s4 := ku s4
    replace hz := zz
    clear kk zz
    refine vt (.int .i64 ((i + 1 : Nat) : Int)) (ex_bin rfl (ev s30 rfl) rfl (addD8 _ _ _ 1 ((i + 1 : Nat) : Int) (by rw [IntKind.wrap_i64]; omega) _)) hz (fun Ybe zz kk s31 => ?_)
    replace s1 := ku s1
    replace s2 := ku s2
    replace s3 := ku s3
    replace s4 := ku s4
    replace hz := zz
    clear kk zz s30 Ybd
    refine vt _ (ex_assign rfl (ev s31 rfl)) hz (fun Ybf zz kk s4x => ?_)
    replace s1 := ku s1
    replace s2 := ku s2
    replace s3 := ku s3
    clear kk hz s31 s4
    have hz := zz
    have s4 := s4x
    clear zz s4x Ybe
    refine wpList_nil ?_
    have et : s.B.take (i + 1) = s.B.take i ++ [x] := by rw [List.take_add_one, hxi]; rfl
    exact ⟨_, rfl, by omega, hz, s1, s2, s4, vb2, _, s3, oB6, by rw [et]; exact cB6.snoc ⟨⟨rfl, rfl, rfl, rfl, rfl, rfl⟩, ol6.low (by omega), by show x.s.D.length * 48 ≤ _; omega⟩, hb6⟩
  · have d1 : decide ((i : Int) < (s.B.length : Int)) = false := decide_eq_false (by omega)
    go_upto_region 7 with fail
    refine wp_region_lit ?_
    refine vt _ (ex_move rfl (ev s4 rfl)) hz (fun Ybg zz kk s25 => ?_)
    replace s1 := ku s1
    replace s2 := ku s2
    replace s3 := ku s3
    replace hz := zz
    clear kk zz s4
    refine vt (.pointer (some ⟨w.heap.size, 10, none⟩)) (ex_fa rfl (ev s1 rfl) (faS10 _ _)) hz (fun Ybh zz kk s26 => ?_)
    replace s1 := ku s1
    replace s2 := ku s2
    replace s3 := ku s3
    replace s25 := ku s25
    replace hz := zz
    clear kk zz Ybg
    refine vt (.slice s.ba s.B.length s.bc) (ex_ld rfl (ev s26 rfl) (ldB8 (HSr.cell 10 _ rfl))) hz (fun Ybi zz kk s27 => ?_)
    replace s1 := ku s1
    replace s2 := ku s2
    replace s3 := ku s3
    replace s25 := ku s25
    replace hz := zz
    clear kk zz s26 Ybh
    refine vt (.int .i64 (s.B.length : Int)) (ex_lenB8 rfl rfl (ev s27 rfl)) hz (fun Ybj zz kk s28 => ?_)
    replace s1 := ku s1
    replace s2 := ku s2
    replace s3 := ku s3
    replace s25 := ku s25
    replace hz := zz
    clear kk zz s27 Ybi
    refine vt (.bool false) (ex_bin rfl (ev s25 rfl) (ev s28 rfl) (lssD8 _ _ _ _ false d1 _)) hz (fun Ybk zz kk s29 => ?_)
    replace s1 := ku s1
    replace s2 := ku s2
    replace s3 := ku s3
    replace hz := zz
    clear kk zz s25 s28 Ybj
    refine wpList_nil ?_
    go_upto_region 12 with fail
    refine wp_cond_false ((ev s29 rfl).trans rfl) ?_
    clear s29 d1
    obtain rfl : i = s.B.length := by omega
    rw [List.take_length] at cB
    obtain ⟨a10, c10, hvb, _, _⟩ := oB.sl kBlA
    rw [hvb] at s3 oB
    have p10 := Fr8.of_own (B := w2.heap.size) kBlA oB hzB
    have o10 := oB.low hzB
    have t10 := cB.low (B' := w2.heap.size) hzB
    clear hvb oB cB HIr HSr hBr hit hi
    obtain ⟨x10, hX⟩ : ∃ v, v = wr := ⟨_, rfl⟩
    obtain ⟨L10, hL10⟩ : ∃ v, v = R := ⟨_, rfl⟩
    rw [← hL10] at p10 t10 o10 s3
    rw [← hX] at p10 t10 o10 hbr hzr ⊢
    clear hX
    clear hL10
    have HS := HS.bel hbr
    have HZ := HZ.bel hbr
    have hB := hB.trans (hbr.mono (by omega))
    have p4 := p4.later hbr
    have o4 := o4.grow hbr
    have p6 := p6.later hbr
    have o6 := o6.grow hbr
    have p8 := p8.later hbr
    have o8 := o8.grow hbr
    have p9 := p9.later hbr
    have o9 := o9.grow hbr
    have hzB := Nat.le_trans hzB hbr.size
    clear hbr
    go_upto_region 12 with fail
    refine wp_region_lit ?_
    refine vt _ (ex_move rfl (ev s3 rfl)) hz (fun Ybl zz kk s45 => ?_)
    replace s1 := ku s1
    replace s2 := ku s2
    replace hz := zz
    clear kk zz s3
    refine vt (.pointer (some ⟨w.heap.size, 10, none⟩)) (ex_fa rfl (ev s1 rfl) (faS10 _ _)) hz (fun Ybm zz kk s46 => ?_)
    replace s1 := ku s1
    replace s2 := ku s2
    replace s45 := ku s45
    replace hz := zz
    clear kk zz Ybl
    refine vs (x10.setCell ⟨w.heap.size, 10, none⟩ (.slice a10 L10.length c10)) (want_none rfl) (ex_st rfl (ev s46 rfl) (ev s45 rfl) (stB8 (HS.cell 10 _ rfl) (HS.free 10) _ _ _)) rfl ?_
    have US : Upd (fun k => k = w.heap.size) x10 (x10.setCell ⟨w.heap.size, 10, none⟩ (.slice a10 L10.length c10)) := (Upd.refl (fun k => k = w.heap.size) _).setCell (p := ⟨w.heap.size, 10, none⟩) (.inl rfl) _
    have HSn := HS.set (j := 10) (by simp [Sta.cs]) (.slice a10 L10.length c10)
    obtain ⟨y10, hy10⟩ : ∃ v, v = (x10.setCell ⟨w.heap.size, 10, none⟩ (.slice a10 L10.length c10)) := ⟨_, rfl⟩
    rw [← hy10] at US HSn ⊢
    clear hy10 HS
    have HS : SB7 y10 (w.heap.size) { s with la := a4, lc := c4, va := a6, vc := c6, ka := a8, kc := c8, ma := a9, mc := c9, ba := a10, bc := c10, B := L10 } := HSn
    clear HSn
    have HZ := HZ.upd US (by show ¬ w.heap.size + 1 = w.heap.size; omega)
    have hB := hB.trans (US.below hB.size (fun k hk => by omega))
    have p4 := p4.set US (by omega)
    have o4 := o4.set9 US (by omega)
    have p6 := p6.set US (by omega)
    have o6 := o6.set9 US (by omega)
    have p8 := p8.set US (by omega)
    have o8 := o8.set9 US (by omega)
    have p9 := p9.set US (by omega)
    have o9 := o9.set9 US (by omega)
    have p10 := p10.set US (by omega)
    have t10 := t10.set8 US (by omega)
    have o10 := o10.set9 US (by omega)
    have hzB := Nat.le_trans hzB US.size
    clear US
    clear s45 s46
    refine wpList_nil ?_
    go_upto_region 13 with fail
    refine wp_region_lit ?_
    refine vt (.slice none 0 0) (ex_assign rfl rfl) hz (fun Ybn zz kk s6 => ?_)
    replace s1 := ku s1
    replace s2 := ku s2
    replace hz := zz
    clear kk zz
    refine wpList_nil ?_
    go_upto_region 14 with fail
    refine wp_region_lit ?_
    refine vt (.int .i64 0) (ex_assign rfl rfl) hz (fun Ybo zz kk s7 => ?_)
    replace s1 := ku s1
    replace s2 := ku s2
    replace s6 := ku s6
    replace hz := zz
    clear kk zz
    refine wpList_nil ?_
    have hsv : _ = some (gw true (.int .i64 ((0 : Nat) : Int))) := s7
    go_upto_region 15 with fail
    refine v_loop 7 s.N.length (fun i T wr => T.size = 70 ∧ T[1]? = some (gw true (.pointer (some ⟨w.heap.size, 0, none⟩))) ∧ T[2]? = some (gw true (.pointer (some ⟨w.heap.size + 1, 0, none⟩))) ∧ T[7]? = some (gw true (.int .i64 (i : Int))) ∧ Hid (∃ vb R, T[6]? = some (gw true vb) ∧ OwnY yAnA y10.heap.size wr vb R ∧ An.Cps y10.heap.size wr (s.N.take i) R ∧ Below y10.heap.size y10 wr)) (fun i T w h => h.2.2.2.1) ⟨hz, s1, s2, hsv, _, _, s6, OwnY.nil _ _ _, An.Cps.nil _ _, Below.refl _ _⟩ ?_
    clear hz s1 s2 s7 s6 hsv
    intro i R11 wr hi hh
    obtain ⟨hz, s1, s2, s7, HJ⟩ := hh
    obtain ⟨vb, R, s6, oB, cB, hbr⟩ := HJ.out
    clear HJ
    have hzr := hbr.size
    have hBr := hB.trans (hbr.mono (by omega))
    have HSr := HS.bel hbr
    have HIr := (hI.later hBr).n
    by_cases hit : i < s.N.length
    · have d1 : decide ((i : Int) < (s.N.length : Int)) = true := decide_eq_true (by omega)
      go_upto_region 15 with fail
      refine wp_region_lit ?_
      refine vt _ (ex_move rfl (ev s7 rfl)) hz (fun Ybp zz kk s47 => ?_)
      replace s1 := ku s1
      replace s2 := ku s2
      replace s6 := ku s6
      replace s7 := ku s7
      replace hz := zz
      clear kk zz
      refine vt (.pointer (some ⟨w.heap.size, 11, none⟩)) (ex_fa rfl (ev s1 rfl) (faS11 _ _)) hz (fun Ybq zz kk s48 => ?_)
      replace s1 := ku s1
      replace s2 := ku s2
      replace s6 := ku s6
      replace s7 := ku s7
      replace s47 := ku s47
      replace hz := zz
      clear kk zz Ybp
      refine vt (.slice s.na s.N.length s.nc) (ex_ld rfl (ev s48 rfl) (ldN8 (HSr.cell 11 _ rfl))) hz (fun Ybr zz kk s49 => ?_)
      replace s1 := ku s1
      replace s2 := ku s2
      replace s6 := ku s6
      replace s7 := ku s7
      replace s47 := ku s47
      replace hz := zz
      clear kk zz s48 Ybq
      refine vt (.int .i64 (s.N.length : Int)) (ex_lenN8 rfl rfl (ev s49 rfl)) hz (fun Ybs zz kk s50 => ?_)
      replace s1 := ku s1
      replace s2 := ku s2
      replace s6 := ku s6
      replace s7 := ku s7
      replace s47 := ku s47
      replace hz := zz
      clear kk zz s49 Ybr
      refine vt (.bool true) (ex_bin rfl (ev s47 rfl) (ev s50 rfl) (lssD8 _ _ _ _ true d1 _)) hz (fun Ybt zz kk s51 => ?_)
      replace s1 := ku s1
      replace s2 := ku s2
      replace s6 := ku s6
      replace s7 := ku s7
      replace hz := zz
      clear kk zz s47 s50 Ybs
      refine wpList_nil ?_
      go_upto_region 17 with fail
      refine wp_cond_true ((ev s51 rfl).trans rfl) ?_
      clear s51 d1
      obtain ⟨x, hxi⟩ : ∃ x, s.N[i]? = some x := ⟨_, List.getElem?_eq_getElem hit⟩
      have hmem := List.mem_of_getElem? hxi
      obtain ⟨q, o, hqa, hq, hl⟩ := HIr.place (by intro e; rw [e] at hit; simp at hit)
      obtain ⟨e1, he1⟩ : ∃ y, y = wr.alloc (.cells zAn9.cs.toArray 61) := ⟨_, rfl⟩
      have hb : Below wr.heap.size wr e1 := by rw [he1]; exact (Below.refl _ _).alloc (Nat.le_refl _) _
      have HA : BX7 e1 wr.heap.size zAn9.cs := by rw [he1]; exact BX7.new _ _ _
      go_upto_region 17 with fail
      refine wp_region_lit ?_
      refine vt (.pointer (some ⟨w.heap.size, 11, none⟩)) (ex_fa rfl (ev s1 rfl) (faS11 _ _)) hz (fun Ybu zz kk s54 => ?_)
      replace s1 := ku s1
      replace s2 := ku s2
      replace s6 := ku s6
      replace s7 := ku s7
      replace hz := zz
      clear kk zz
      refine vt (.slice s.na s.N.length s.nc) (ex_ld rfl (ev s54 rfl) (ldN8 (HSr.cell 11 _ rfl))) hz (fun Ybv zz kk s55 => ?_)
      replace s1 := ku s1
      replace s2 := ku s2
      replace s6 := ku s6
      replace s7 := ku s7
      replace hz := zz
      clear kk zz s54 Ybu
      refine vt _ (ex_move rfl (ev s7 rfl)) hz (fun Ybw zz kk s56 => ?_)
      replace s1 := ku s1
      replace s2 := ku s2
      replace s6 := ku s6
      replace s7 := ku s7
      replace s55 := ku s55
      replace hz := zz
      clear kk zz Ybv
      refine vt (.pointer (some ⟨q, o + i * 6, none⟩)) (ex_ix rfl (ev s55 rfl) (ev s56 rfl) (by rw [hqa]; exact ix9An q o s.N.length s.nc i hit _)) hz (fun Ybx zz kk s57 => ?_)
      replace s1 := ku s1
      replace s2 := ku s2
      replace s6 := ku s6
      replace s7 := ku s7
      replace hz := zz
      clear kk zz s55 s56 Ybw
      refine vt (x.val) (ex_ld rfl (ev s57 rfl) (ldAn9 (fun k u hu => hl i x hxi k u hu))) hz (fun Yby zz kk s58 => ?_)
      replace s1 := ku s1
      replace s2 := ku s2
      replace s6 := ku s6
      replace s7 := ku s7
      replace hz := zz
      clear kk zz s57 Ybx
      refine vw (.pointer (some ⟨wr.heap.size, 0, none⟩)) e1 (want_none rfl) (ex_al rfl (by rw [he1]; exact alAn9 _)) rfl hz (by decide) (fun Ybz zz kk s8 => ?_)
      replace s1 := ku s1
      replace s2 := ku s2
      replace s6 := ku s6
      replace s7 := ku s7
      replace s58 := ku s58
      replace hz := zz
      clear kk zz Yby
      refine vs (sets e1 wr.heap.size 0 x.cs) (want_none rfl) (ex_st rfl (ev s8 rfl) (ev s58 rfl) (stAn9 HA x)) rfl ?_
      have HP := putAn9 HA x
      have UP := upAn9 e1 wr.heap.size x
      obtain ⟨e2, he2⟩ : ∃ v, v = sets e1 wr.heap.size 0 x.cs := ⟨_, rfl⟩
      rw [← he2] at HP UP ⊢
      have hby : Below wr.heap.size wr e2 := hb.trans (UP.below hb.size (fun k hk => by omega))
      clear he2 he1 HA UP hb hl
      have zy := hby.size
      have hqe := HP.lt
      clear s58
      refine wpList_nil ?_
      have xin := ((hI.later hBr).nl x hmem).1.later hby
      have xb := hb2 x hmem
      go_upto_region 18 with fail
      refine wp_region_lit ?_
      refine vt (.pointer (some ⟨wr.heap.size, 5, none⟩)) (ex_fa rfl (ev s8 rfl) (fb4An _ _)) hz (fun Yb0 zz kk s59 => ?_)
      replace s1 := ku s1
      replace s2 := ku s2
      replace s6 := ku s6
      replace s7 := ku s7
      replace s8 := ku s8
      replace hz := zz
      clear kk zz
      refine vt (.slice x.s.a x.s.D.length x.s.c) (ex_ld rfl (ev s59 rfl) (ldE8 (HP.cell 5 _ rfl))) hz (fun Yb1 zz kk s60 => ?_)
      replace s1 := ku s1
      replace s2 := ku s2
      replace s6 := ku s6
      replace s7 := ku s7
      replace s8 := ku s8
      replace hz := zz
      clear kk zz s59 Yb0
      refine vcallP (want_none rfl) (ex_call rfl (by simp only [List.map_toArray, List.map_cons, List.map_nil, (ev s60 rfl), evc] <;> rfl) rfl) (copyent_any x.s.a _ x.s.c x.s.D e2 xin (by omega)) rfl hz (by decide) ?_
      rintro e e3 ⟨vl, rfl, ol, bl⟩; obtain ⟨al, cl, rfl, _, _⟩ := ol.sl kE
      refine ⟨_, rfl, fun Yb2 zz kk s61 => ?_⟩
      have HP := HP.bel bl
      have zl := bl.size
      have hbz := hby.trans (bl.mono zy)
      clear bl hby
      replace s1 := ku s1
      replace s2 := ku s2
      replace s6 := ku s6
      replace s7 := ku s7
      replace s8 := ku s8
      replace hz := zz
      clear kk zz s60 Yb1
      refine vt (.pointer (some ⟨wr.heap.size, 5, none⟩)) (ex_fa rfl (ev s8 rfl) (fb4An _ _)) hz (fun Yb3 zz kk s62 => ?_)
      replace s1 := ku s1
      replace s2 := ku s2
      replace s6 := ku s6
      replace s7 := ku s7
      replace s8 := ku s8
      replace s61 := ku s61
      replace hz := zz
      clear kk zz Yb2
      refine vs (e3.setCell ⟨wr.heap.size, 5, none⟩ (.slice al x.s.D.length cl)) (want_none rfl) (ex_st rfl (ev s62 rfl) (ev s61 rfl) (stE8 (HP.cell 5 _ rfl) (HP.free 5) _ _ _)) rfl ?_
      have HPn := HP.set (j := 5) (by simp [An.cs]) (.slice al x.s.D.length cl)
      have US : Upd (fun k => k = wr.heap.size) e3 (e3.setCell ⟨wr.heap.size, 5, none⟩ (.slice al x.s.D.length cl)) := (Upd.refl (fun k => k = wr.heap.size) _).setCell (p := ⟨wr.heap.size, 5, none⟩) (.inl rfl) _
      obtain ⟨e4, he4⟩ : ∃ v, v = e3.setCell ⟨wr.heap.size, 5, none⟩ (.slice al x.s.D.length cl) := ⟨_, rfl⟩
      rw [← he4] at HPn US ⊢
      clear he4 HP
      have HP : BX7 e4 wr.heap.size ({ x with s := ⟨al, cl, x.s.D⟩ } : An).cs := HPn
      clear HPn
      have ol := ol.upd1 US (fun k hk e => by have := (ol.blk k hk).1; omega)
      have hbz := hbz.trans (US.below (by omega) (fun k hk => by omega))
      have z4 := US.size
      clear US
      clear s61 s62
      refine wpList_nil ?_
      have oB := oB.grow hbz
      have cB := cB.bel hbz
      have hzz := hbz.size
      go_upto_region 19 with fail
      refine wp_region_lit ?_
      refine vt _ (ex_move rfl (ev s6 rfl)) hz (fun Yb4 zz kk s63 => ?_)
      replace s1 := ku s1
      replace s2 := ku s2
      replace s6 := ku s6
      replace s7 := ku s7
      replace s8 := ku s8
      replace hz := zz
      clear kk zz
      refine vt (An.val ({ x with s := ⟨al, cl, x.s.D⟩ } : An)) (ex_ld rfl (ev s8 rfl) (ldbAn9 HP)) hz (fun Yb5 zz kk s64 => ?_)
      replace s1 := ku s1
      replace s2 := ku s2
      replace s6 := ku s6
      replace s7 := ku s7
      replace s63 := ku s63
      replace hz := zz
      clear kk zz s8 Yb4
      obtain ⟨e5, he5⟩ : ∃ v, v = e4.alloc (.cells (yAnA.cs ({ x with s := ⟨al, cl, x.s.D⟩ } : An)).toArray 61) := ⟨_, rfl⟩
      have b5 : Below e4.heap.size e4 e5 := by rw [he5]; exact (Below.refl _ _).alloc (Nat.le_refl _) _
      have p5 : SlY yAnA e5 (some ⟨e4.heap.size, 0, none⟩) 1 1 [({ x with s := ⟨al, cl, x.s.D⟩ } : An)] := by rw [he5]; exact one9 yAnA e4 ({ x with s := ⟨al, cl, x.s.D⟩ } : An)
      have z5 := b5.size
      have hlR : R.length = i := by rw [cB.1, List.length_take]; omega
      obtain ⟨vb2, e6, hr6, oB6, g6, _⟩ := run_appY kAnA e5 31 y10.heap.size _ vb _ _ _ _ p5 (oB.grow b5) (by omega) (by rw [hlR]; unfold maxLen; omega) (by rw [hlR]; show (i + 1) * 64 ≤ _; omega)
      have cB6 := (cB.bel b5).row (oB.grow b5) g6
      have ol6 := (ol.grow b5).grownZ (oB.grow b5) (by decide) g6
      have hb6 : Below y10.heap.size y10 e6 := (oB.grow b5).grown ((hbr.trans (hbz.mono (by omega))).trans (b5.mono (by omega))) g6 (by omega)
      refine vw (.slice (some ⟨e4.heap.size, 0, none⟩) 1 1) e5 (want_none rfl) (ex_bs8 rfl (ev s64 rfl) (by rw [he5]; exact bsAn9 ({ x with s := ⟨al, cl, x.s.D⟩ } : An) _)) rfl hz (by decide) (fun Yb6 zz kk s65 => ?_)
      replace s1 := ku s1
      replace s2 := ku s2
      replace s6 := ku s6
      replace s7 := ku s7
      replace s63 := ku s63
      replace hz := zz
      clear kk zz s64 Yb5
      refine vw (vb2) e6 (want_none rfl) (ex_app8 rfl (ev s63 rfl) (ev s65 rfl) hr6) rfl hz (by decide) (fun Yb7 zz kk s66 => ?_)
      clear hr6 g6 p5 he5
      replace s1 := ku s1
      replace s2 := ku s2
      replace s6 := ku s6
      replace s7 := ku s7
      replace hz := zz
      clear kk zz s63 s65 Yb6
      refine vt _ (ex_assign rfl (ev s66 rfl)) hz (fun Yb8 zz kk s6x => ?_)
      replace s1 := ku s1
      replace s2 := ku s2
      replace s7 := ku s7
      clear kk hz s66 s6
      have hz := zz
      have s6 := s6x
      clear zz s6x Yb7
      refine wpList_nil ?_
      go_upto_region 16 with fail
      refine wp_region_lit ?_
      refine vt _ (ex_move rfl (ev s7 rfl)) hz (fun Yb9 zz kk s52 => ?_)
      replace s1 := ku s1
      replace s2 := ku s2
      replace s6 := ku s6
      replace s7 := ku s7
      replace hz := zz
      clear kk zz
      refine vt (.int .i64 ((i + 1 : Nat) : Int)) (ex_bin rfl (ev s52 rfl) rfl (addD8 _ _ _ 1 ((i + 1 : Nat) : Int) (by rw [IntKind.wrap_i64]; omega) _)) hz (fun Yca zz kk s53 => ?_)
      replace s1 := ku s1
      replace s2 := ku s2
      replace s6 := ku s6
      replace s7 := ku s7
      replace hz := zz
      clear kk zz s52 Yb9
      refine vt _ (ex_assign rfl (ev s53 rfl)) hz (fun Ycb zz kk s7x => ?_)
      replace s1 := ku s1
      replace s2 := ku s2
      replace s6 := ku s6
      clear kk hz s53 s7
      have hz := zz
      have s7 := s7x
      clear zz s7x Yca
      refine wpList_nil ?_
      have et : s.N.take (i + 1) = s.N.take i ++ [x] := by rw [List.take_add_one, hxi]; rfl
      exact ⟨_, rfl, by omega, hz, s1, s2, s7, vb2, _, s6, oB6, by rw [et]; exact cB6.snoc ⟨⟨rfl, rfl, rfl, rfl, rfl, rfl⟩, ol6.low (by omega), by show x.s.D.length * 48 ≤ _; omega⟩, hb6⟩
    · have d1 : decide ((i : Int) < (s.N.length : Int)) = false := decide_eq_false (by omega)
      go_upto_region 15 with fail
      refine wp_region_lit ?_
      refine vt _ (ex_move rfl (ev s7 rfl)) hz (fun Ycc zz kk s47 => ?_)
      replace s1 := ku s1
      replace s2 := ku s2
      replace s6 := ku s6
      replace hz := zz
      clear kk zz s7
      refine vt (.pointer (some ⟨w.heap.size, 11, none⟩)) (ex_fa rfl (ev s1 rfl) (faS11 _ _)) hz (fun Ycd zz kk s48 => ?_)
      replace s1 := ku s1
      replace s2 := ku s2
      replace s6 := ku s6
      replace s47 := ku s47
      replace hz := zz
      clear kk zz Ycc
      refine vt (.slice s.na s.N.length s.nc) (ex_ld rfl (ev s48 rfl) (ldN8 (HSr.cell 11 _ rfl))) hz (fun Yce zz kk s49 => ?_)
      replace s1 := ku s1
      replace s2 := ku s2
      replace s6 := ku s6
      replace s47 := ku s47
      replace hz := zz
      clear kk zz s48 Ycd
      refine vt (.int .i64 (s.N.length : Int)) (ex_lenN8 rfl rfl (ev s49 rfl)) hz (fun Ycf zz kk s50 => ?_)
      replace s1 := ku s1
      replace s2 := ku s2
      replace s6 := ku s6
      replace s47 := ku s47
      replace hz := zz
      clear kk zz s49 Yce
      refine vt (.bool false) (ex_bin rfl (ev s47 rfl) (ev s50 rfl) (lssD8 _ _ _ _ false d1 _)) hz (fun Ycg zz kk s51 => ?_)
      replace s1 := ku s1
      replace s2 := ku s2
      replace s6 := ku s6
      replace hz := zz
      clear kk zz s47 s50 Ycf
      refine wpList_nil ?_
      go_upto_region 20 with fail
      refine wp_cond_false ((ev s51 rfl).trans rfl) ?_
      clear s51 d1
      obtain rfl : i = s.N.length := by omega
      rw [List.take_length] at cB
      obtain ⟨a11, c11, hvb, _, _⟩ := oB.sl kAnA
      rw [hvb] at s6 oB
      have p11 := Fr8.of_own (B := w2.heap.size) kAnA oB hzB
      have o11 := oB.low hzB
      have t11 := cB.low (B' := w2.heap.size) hzB
      clear hvb oB cB HIr HSr hBr hit hi
      obtain ⟨x11, hX⟩ : ∃ v, v = wr := ⟨_, rfl⟩
      obtain ⟨L11, hL11⟩ : ∃ v, v = R := ⟨_, rfl⟩
      rw [← hL11] at p11 t11 o11 s6
      rw [← hX] at p11 t11 o11 hbr hzr ⊢
      clear hX
      clear hL11
      have HS := HS.bel hbr
      have HZ := HZ.bel hbr
      have hB := hB.trans (hbr.mono (by omega))
      have p4 := p4.later hbr
      have o4 := o4.grow hbr
      have p6 := p6.later hbr
      have o6 := o6.grow hbr
      have p8 := p8.later hbr
      have o8 := o8.grow hbr
      have p9 := p9.later hbr
      have o9 := o9.grow hbr
      have p10 := p10.later hbr
      have t10 := t10.bel hbr
      have o10 := o10.grow hbr
      have hzB := Nat.le_trans hzB hbr.size
      clear hbr
      go_upto_region 20 with fail
      refine wp_region_lit ?_
      refine vt _ (ex_move rfl (ev s6 rfl)) hz (fun Ych zz kk s67 => ?_)
      replace s1 := ku s1
      replace s2 := ku s2
      replace hz := zz
      clear kk zz s6
      refine vt (.pointer (some ⟨w.heap.size, 11, none⟩)) (ex_fa rfl (ev s1 rfl) (faS11 _ _)) hz (fun Yci zz kk s68 => ?_)
      replace s1 := ku s1
      replace s2 := ku s2
      replace s67 := ku s67
      replace hz := zz
      clear kk zz Ych
      refine vs (x11.setCell ⟨w.heap.size, 11, none⟩ (.slice a11 L11.length c11)) (want_none rfl) (ex_st rfl (ev s68 rfl) (ev s67 rfl) (stN8 (HS.cell 11 _ rfl) (HS.free 11) _ _ _)) rfl ?_
      have US : Upd (fun k => k = w.heap.size) x11 (x11.setCell ⟨w.heap.size, 11, none⟩ (.slice a11 L11.length c11)) := (Upd.refl (fun k => k = w.heap.size) _).setCell (p := ⟨w.heap.size, 11, none⟩) (.inl rfl) _
      have HSn := HS.set (j := 11) (by simp [Sta.cs]) (.slice a11 L11.length c11)
      obtain ⟨y11, hy11⟩ : ∃ v, v = (x11.setCell ⟨w.heap.size, 11, none⟩ (.slice a11 L11.length c11)) := ⟨_, rfl⟩
      rw [← hy11] at US HSn ⊢
      clear hy11 HS
      have HS : SB7 y11 (w.heap.size) { s with la := a4, lc := c4, va := a6, vc := c6, ka := a8, kc := c8, ma := a9, mc := c9, ba := a10, bc := c10, B := L10, na := a11, nc := c11, N := L11 } := HSn
      clear HSn
      have HZ := HZ.upd US (by show ¬ w.heap.size + 1 = w.heap.size; omega)
      have hB := hB.trans (US.below hB.size (fun k hk => by omega))
      have p4 := p4.set US (by omega)
      have o4 := o4.set9 US (by omega)
      have p6 := p6.set US (by omega)
      have o6 := o6.set9 US (by omega)
      have p8 := p8.set US (by omega)
      have o8 := o8.set9 US (by omega)
      have p9 := p9.set US (by omega)
      have o9 := o9.set9 US (by omega)
      have p10 := p10.set US (by omega)
      have t10 := t10.set8 US (by omega)
      have o10 := o10.set9 US (by omega)
      have p11 := p11.set US (by omega)
      have t11 := t11.set8 US (by omega)
      have o11 := o11.set9 US (by omega)
      have hzB := Nat.le_trans hzB US.size
      clear US
      clear s67 s68
      refine wpList_nil ?_
      go_upto_region 21 with fail
      refine wp_region_lit ?_
      refine vt (Sta.val { s with la := a4, lc := c4, va := a6, vc := c6, ka := a8, kc := c8, ma := a9, mc := c9, ba := a10, bc := c10, B := L10, na := a11, nc := c11, N := L11 }) (ex_ld rfl (ev s1 rfl) (SB7.ld HS)) hz (fun Ycj zz kk s69 => ?_)
      replace s2 := ku s2
      replace hz := zz
      clear kk zz s1
      refine vs (sets y11 (w.heap.size + 1) 0 (Sta.cs { s with la := a4, lc := c4, va := a6, vc := c6, ka := a8, kc := c8, ma := a9, mc := c9, ba := a10, bc := c10, B := L10, na := a11, nc := c11, N := L11 })) (want_none rfl) (ex_st rfl (ev s2 rfl) (ev s69 rfl) (st12 HZ { s with la := a4, lc := c4, va := a6, vc := c6, ka := a8, kc := c8, ma := a9, mc := c9, ba := a10, bc := c10, B := L10, na := a11, nc := c11, N := L11 })) rfl ?_
      have HP := SB7.put HZ { s with la := a4, lc := c4, va := a6, vc := c6, ka := a8, kc := c8, ma := a9, mc := c9, ba := a10, bc := c10, B := L10, na := a11, nc := c11, N := L11 }
      have UP := upd12 y11 (w.heap.size + 1) { s with la := a4, lc := c4, va := a6, vc := c6, ka := a8, kc := c8, ma := a9, mc := c9, ba := a10, bc := c10, B := L10, na := a11, nc := c11, N := L11 }
      obtain ⟨u9, hu9⟩ : ∃ v, v = sets y11 (w.heap.size + 1) 0 (Sta.cs { s with la := a4, lc := c4, va := a6, vc := c6, ka := a8, kc := c8, ma := a9, mc := c9, ba := a10, bc := c10, B := L10, na := a11, nc := c11, N := L11 }) := ⟨_, rfl⟩
      rw [← hu9] at HP UP ⊢
      have hB9 := hide (hB.trans (UP.below hB.size (fun k hk => by omega)))
      have p4 := p4.set UP (by omega)
      have o4 := o4.set9 UP (by omega)
      have p6 := p6.set UP (by omega)
      have o6 := o6.set9 UP (by omega)
      have p8 := p8.set UP (by omega)
      have o8 := o8.set9 UP (by omega)
      have p9 := p9.set UP (by omega)
      have o9 := o9.set9 UP (by omega)
      have p10 := p10.set UP (by omega)
      have t10 := t10.set8 UP (by omega)
      have o10 := o10.set9 UP (by omega)
      have p11 := p11.set UP (by omega)
      have t11 := t11.set8 UP (by omega)
      have o11 := o11.set9 UP (by omega)
      clear hu9 UP
      clear s69
      refine wpList_nil ?_
      go_wp2
      refine bodyPost_ret (results_sta rfl (getD_of s2) HP) rfl ?_
      exact ⟨_, rfl, ⟨rfl, rfl, rfl, rfl, rfl, rfl, rfl, rfl, rfl, rfl, t10.low (by omega), t11.low (by omega), ⟨p4.sl, p6.sl, p8.sl, p9.sl, p10.sl, p11.sl, t10.in8, t11.in8⟩⟩, Sta.Lo.low ⟨p4.lo, p6.lo, p8.lo, p9.lo, p10.lo, p11.lo⟩ (by omega), ⟨o4.low (by omega), o6.low (by omega), o8.low (by omega), o9.low (by omega), o10.low (by omega), o11.low (by omega)⟩, hB9.out⟩
theorem copystate9 (s : Sta) (w : World) (hI : s.In w) (hF : s.Fit) (hb1 : ∀ x ∈ s.B, x.s.D.length * 48 ≤ 140737488351232) (hb2 : ∀ x ∈ s.N, x.s.D.length * 48 ≤ 140737488351232) : Calls Tryz.prog 13 #[s.val] w fun e w' => ∃ t : Sta, e = .returned t.val ∧ t.Cp w.heap.size s w' ∧ t.Lo w.heap.size ∧ Below w.heap.size w w' :=
  (copystate9o s w hI hF hb1 hb2).mono fun e w' ⟨t, h1, h2, h3, _, h4⟩ => ⟨t, h1, h2, h3, h4⟩
theorem rk_idle9 {c : Cg} {s : Sta} (h : s.rk9 c = 0) : c.okB = true ∧ 0 ≤ s.idle ∧ s.idle < c.P := by
  unfold Sta.rk9 at h
  cases hok : c.okB with
  | false => rw [hok] at h; cases h
  | true =>
    rw [hok] at h
    cases hm : s.mayB9 c with
    | false => rw [hm] at h; cases h
    | true =>
      cases hh : s.mh9 c with
      | true => unfold Sta.mayB9 at hm; rw [hh] at hm; cases hm
      | false =>
        have := mh9_facts hok hh
        exact ⟨rfl, by omega, by omega⟩
def Wr9 (B : Nat) (c : Cg) (s t : Sta) (b : Bool) (w : World) : Prop :=
  (s.rk9 c ≠ 0 ∧ t = zS8 ∧ b = false) ∨ (s.rk9 c = 0 ∧ ∃ t0 : Sta, t0.Cp B s w ∧ t0.Lo B ∧ t = { t0 with idle := wtI8 c s } ∧ b = (!still8 c s && decide (wtI8 c s = 0)))
set_option maxHeartbeats 1000000 in
theorem rwait9 (c : Cg) (s : Sta) (w : World) (hI : s.In w) (hF : s.Fit) (hb1 : ∀ x ∈ s.B, x.s.D.length * 48 ≤ 140737488351232) (hb2 : ∀ x ∈ s.N, x.s.D.length * 48 ≤ 140737488351232) : Calls Tryz.prog 6 #[c.val, s.val] w fun e w' => ∃ (t : Sta) (b : Bool), e = .returned (.tuple #[t.val, .bool b, .int .i64 (s.rk9 c)]) ∧ t.In w' ∧ Wr9 w.heap.size c s t b w' ∧ Below w.heap.size w w' := by
  go_enter Tryz.func6, Tryz.ntmps6
  go_upto_region 0 with fail
  refine wp_region_lit ?_
  refine vl_gen (fun T => T.size = 48 ∧ T[0]? = some (gw true (c.val)) ∧ T[1]? = some (gw true (s.val))) ⟨rfl, rfl, rfl⟩ (fun Z0 ⟨hz, s0, s1⟩ => ?_)
  obtain ⟨w1, hw1⟩ : ∃ y, y = w.alloc (.cells c.cs.toArray 23) := ⟨_, rfl⟩
  have hb : Below w.heap.size w w1 := by rw [hw1]; exact (Below.refl _ _).alloc (Nat.le_refl _) _
  have hs1 : w1.heap.size = w.heap.size + 1 := by rw [hw1]; simp
  have HC : CB7 w1 (w.heap.size) c := by rw [hw1]; exact BX7.new _ _ _
  refine vw (.pointer (some ⟨w.heap.size, 0, none⟩)) w1 (want_none rfl) (ex_box8 rfl (ev s0 rfl) (by rw [hw1]; exact bxC7 _ _)) rfl hz (by decide) (fun Z1 zz kk s2x => ?_)
  replace s1 := ku s1
  clear kk hz s0 hw1
  have hz := zz
  have s2 := s2x
  clear zz s2x
  have hB := hb
  clear hb
  obtain ⟨w2, hw2⟩ : ∃ y, y = w1.alloc (.cells s.cs.toArray 33) := ⟨_, rfl⟩
  have hb : Below w1.heap.size w1 w2 := by rw [hw2]; exact (Below.refl _ _).alloc (Nat.le_refl _) _
  have hs2 : w2.heap.size = w.heap.size + 2 := by rw [hw2]; simp; omega
  have HS : SB7 w2 (w.heap.size + 1) s := by rw [hw2, ← hs1]; exact BX7.new _ _ _
  refine vw (.pointer (some ⟨w.heap.size + 1, 0, none⟩)) w2 (want_none rfl) (ex_box8 rfl (ev s1 rfl) (by rw [hw2, ← hs1]; exact bxS7 _ _)) rfl hz (by decide) (fun Z2 zz kk s3x => ?_)
  replace s2 := ku s2
  clear kk hz s1 hw2
  have hz := zz
  have s3 := s3x
  clear zz s3x
  have hB := hB.trans (hb.mono (by omega))
  have HC := HC.bel hb
  clear hb
  have hv0 : Below w2.heap.size w2 w2 := Below.refl _ _
  obtain ⟨w3, hw3⟩ : ∃ y, y = w2.alloc (.cells zS8.cs.toArray 33) := ⟨_, rfl⟩
  have hb : Below w2.heap.size w2 w3 := by rw [hw3]; exact (Below.refl _ _).alloc (Nat.le_refl _) _
  have HZ : SB7 w3 (w.heap.size + 2) zS8 := by rw [hw3, ← hs2]; exact BX7.new _ _ _
  have hz3 : w3.heap.size = w.heap.size + 3 := by rw [hw3]; simp; omega
  refine vw (.pointer (some ⟨w.heap.size + 2, 0, none⟩)) w3 (want_none rfl) (ex_al rfl (by rw [hw3, ← hs2]; exact al12 _)) rfl hz (by decide) (fun Ya zz kk s4 => ?_)
  replace s2 := ku s2
  replace s3 := ku s3
  replace hz := zz
  clear kk zz
  refine vt (.bool false) (ex_assign rfl rfl) hz (fun Yb zz kk s5 => ?_)
  replace s2 := ku s2
  replace s3 := ku s3
  replace s4 := ku s4
  replace hz := zz
  clear kk zz Ya
  refine vt (.int .i64 0) (ex_assign rfl rfl) hz (fun Yc zz kk s6 => ?_)
  replace s2 := ku s2
  replace s3 := ku s3
  replace s4 := ku s4
  replace hz := zz
  clear kk zz s5 Yb
  clear s6
  refine wpList_nil ?_
  have hB := hB.trans (hb.mono (by omega))
  have HS := HS.bel hb
  have HC := HC.bel hb
  have HI := hI.later hB
  clear hb hw3 hv0
  have hv0 : Below w3.heap.size w3 w3 := Below.refl _ _
  go_upto_region 1 with fail
  refine wp_region_lit ?_
  refine vt (c.val) (ex_ld rfl (ev s2 rfl) (CB7.ld (HC.bel hv0))) hz (fun Yd zz kk s9 => ?_)
  replace s2 := ku s2
  replace s3 := ku s3
  replace s4 := ku s4
  replace hz := zz
  clear kk zz
  refine vt (s.val) (ex_ld rfl (ev s3 rfl) (SB7.ld (HS.bel hv0))) hz (fun Ye zz kk s10 => ?_)
  replace s2 := ku s2
  replace s3 := ku s3
  replace s4 := ku s4
  replace s9 := ku s9
  replace hz := zz
  clear kk zz Yd
  refine vcall true (.int .i64 (s.rk9 c)) (want_none rfl) (fun hc => ex_call rfl (by simp only [List.map_toArray, List.map_cons, List.map_nil, (ev s9 rfl), (ev s10 rfl), evc] <;> rfl) rfl) (fun hc => rcheck9 c s w3 (HI.later hv0) hF) rfl hz (by decide) (fun Yf x1 hb zz kk s11 => ?_)
  have hx1 := hv0.trans (hb.mono hv0.size)
  clear hb
  replace s2 := ku s2
  replace s3 := ku s3
  replace s4 := ku s4
  replace hz := zz
  clear kk zz s9 s10 Ye
  refine vt _ (ex_assign rfl (ev s11 rfl)) hz (fun Yg zz kk s7 => ?_)
  replace s2 := ku s2
  replace s3 := ku s3
  replace s4 := ku s4
  replace hz := zz
  clear kk zz s11 Yf
  refine wpList_nil ?_
  go_upto_region 2 with fail
  refine wp_region_lit ?_
  refine vt _ (ex_move rfl (ev s7 rfl)) hz (fun Yh zz kk s12 => ?_)
  replace s2 := ku s2
  replace s3 := ku s3
  replace s4 := ku s4
  replace s7 := ku s7
  replace hz := zz
  clear kk zz
  refine vt (.bool (!decide ((s.rk9 c) = 0))) (ex_bin rfl (ev s12 rfl) rfl (neqC _ _ _ _ _)) hz (fun Yi zz kk s13 => ?_)
  replace s2 := ku s2
  replace s3 := ku s3
  replace s4 := ku s4
  replace s7 := ku s7
  replace hz := zz
  clear kk zz s12 Yh
  refine wpList_nil ?_
  go_upto_region 3 with fail
  cases e12 : decide (s.rk9 c = 0)
  · refine wp_cond_true ((ev s13 rfl).trans (by rw [e12]; rfl)) ?_
    have HZ1 := HZ.bel hx1
    go_upto_region 3 with fail
    refine wp_region_lit ?_
    refine vt (zS8.val) (ex_build rfl (bd12 _)) hz (fun Yj zz kk s14 => ?_)
    replace s4 := ku s4
    replace s7 := ku s7
    replace hz := zz
    clear kk zz s2 s3
    refine vt _ (ex_move rfl (ev s7 rfl)) hz (fun Yk zz kk s15 => ?_)
    replace s4 := ku s4
    replace s14 := ku s14
    replace hz := zz
    clear kk zz s7 Yj
    refine vs (sets x1 (w.heap.size + 2) 0 (Sta.cs zS8)) (want_none rfl) (ex_st rfl (ev s4 rfl) (ev s14 rfl) (st12 HZ1 zS8)) rfl ?_
    have HP := SB7.put HZ1 zS8
    have UP := upd12 x1 (w.heap.size + 2) zS8
    obtain ⟨u9, hu9⟩ : ∃ v, v = sets x1 (w.heap.size + 2) 0 (Sta.cs zS8) := ⟨_, rfl⟩
    rw [← hu9] at HP UP ⊢
    clear hu9
    refine vt (.bool false) (ex_assign rfl rfl) hz (fun Yl zz kk s5 => ?_)
    replace s4 := ku s4
    replace s15 := ku s15
    replace hz := zz
    clear kk zz s14 Yk
    refine vt _ (ex_assign rfl (ev s15 rfl)) hz (fun Ym zz kk s6 => ?_)
    replace s4 := ku s4
    replace s5 := ku s5
    replace hz := zz
    clear kk zz s15 Yl
    refine wpList_nil ?_
    have hB9 := hide ((hB.trans (hx1.mono (by omega))).trans (UP.below (by have := hx1.size; omega) (fun k hk => by omega)))
    go_wp2
    refine bodyPost_ret (results_sta3 rfl (getD_of s4) (getD_of s5) (getD_of s6) HP) rfl ?_
    exact ⟨zS8, false, rfl, zS8_in _, .inl ⟨of_decide_eq_false e12, rfl, rfl⟩, hB9.out⟩
  · refine wp_cond_false ((ev s13 rfl).trans (by rw [e12]; rfl)) ?_
    clear s13 s7
    have hE : s.rk9 c = 0 := of_decide_eq_true e12
    obtain ⟨hok, hid0, hid⟩ := rk_idle9 hE
    have hP := Cg.P_ok hok
    have hB := hB.trans (hx1.mono (by omega))
    have HS := HS.bel hx1
    have HC := HC.bel hx1
    have HZ := HZ.bel hx1
    have HI := hI.later hB
    have hz4 := hx1.size
    have hv1 : Below x1.heap.size x1 x1 := Below.refl _ _
    go_upto_region 4 with fail
    refine wp_region_lit ?_
    refine vt (s.val) (ex_ld rfl (ev s3 rfl) (SB7.ld (HS.bel hv1))) hz (fun Yn zz kk s16 => ?_)
    replace s2 := ku s2
    replace s3 := ku s3
    replace s4 := ku s4
    replace hz := zz
    clear kk zz
    refine vcallP (want_none rfl) (ex_call rfl (by simp only [List.map_toArray, List.map_cons, List.map_nil, (ev s16 rfl), evc] <;> rfl) rfl) (copystate9 s x1 HI hF hb1 hb2) rfl hz (by decide) ?_
    rintro e x5 ⟨t, rfl, hk, hlo, bk⟩
    refine ⟨_, rfl, fun Yo zz kk s17 => ?_⟩
    have HS := HS.bel bk
    have HC := HC.bel bk
    have HZ := HZ.bel bk
    have hz5 := bk.size
    have hB := hB.trans (bk.mono (by omega))
    clear bk hv1
    obtain ⟨q8, hq8⟩ : ∃ z, z = x5.heap.size := ⟨_, rfl⟩
    obtain ⟨x6, hx6⟩ : ∃ y, y = x5.alloc (.cells zS8.cs.toArray 33) := ⟨_, rfl⟩
    have hb : Below x5.heap.size x5 x6 := by rw [hx6]; exact (Below.refl _ _).alloc (Nat.le_refl _) _
    have HQ : SB7 x6 q8 zS8 := by rw [hx6, hq8]; exact BX7.new _ _ _
    have hzx6 : x6.heap.size = x5.heap.size + 1 := by rw [hx6]; simp
    replace s2 := ku s2
    replace s3 := ku s3
    replace s4 := ku s4
    replace hz := zz
    clear kk zz s16 Yn
    refine vw (.pointer (some ⟨q8, 0, none⟩)) x6 (want_none rfl) (ex_al rfl (by rw [hx6, hq8]; exact al12 _)) rfl hz (by decide) (fun Yp zz kk s8 => ?_)
    replace s2 := ku s2
    replace s3 := ku s3
    replace s4 := ku s4
    replace s17 := ku s17
    replace hz := zz
    clear kk zz Yo
    refine vs (sets x6 q8 0 t.cs) (want_none rfl) (ex_st rfl (ev s8 rfl) (ev s17 rfl) (st12 HQ t)) rfl ?_
    have HT := SB7.put HQ t
    have UT := upd12 x6 q8 t
    obtain ⟨x7, hx7⟩ : ∃ v, v = sets x6 q8 0 t.cs := ⟨_, rfl⟩
    rw [← hx7] at HT UT ⊢
    clear hx7 hx6
    have hb5 : Below x5.heap.size x5 x7 := hb.trans (UT.below hb.size (fun k hk => by omega))
    have HS := HS.bel hb5
    have HC := HC.bel hb5
    have HZ := HZ.bel hb5
    have hz6 := hb5.size
    have hB := hB.trans (hb5.mono (by omega))
    clear UT HQ hb
    have hv2 : Below x7.heap.size x7 x7 := Below.refl _ _
    clear s17
    refine wpList_nil ?_
    go_upto_region 5 with fail
    refine vq_start (C := fun v => Below x7.heap.size x7 v) (by kernel_rfl) (by kernel_rfl) hv2.drew ?_
    refine vq true (.pointer (some ⟨w.heap.size + 1, 1, none⟩)) (want_none rfl) (fun hc v hv => ex_fa rfl (ev s3 rfl) (faS1 _ _)) rfl hz (by decide) (fun Yq zz kk s18 => ?_)
    replace s2 := ku s2
    replace s3 := ku s3
    replace s4 := ku s4
    replace s8 := ku s8
    replace hz := zz
    clear kk zz
    refine vq true (.int .i64 s.st) (want_none rfl) (fun hc v hv => ex_ld rfl (ev s18 rfl) (ldT8 (cell8 (HS.cell 1 _ rfl) hv))) rfl hz (by decide) (fun Yr zz kk s19 => ?_)
    replace s2 := ku s2
    replace s3 := ku s3
    replace s4 := ku s4
    replace s8 := ku s8
    replace hz := zz
    clear kk zz s18 Yq
    refine vq true (.bool (decide (s.st = 3))) (want_none rfl) (fun hc v hv => ex_bin rfl (ev s19 rfl) rfl (eqlT8 _ _ _ _ _)) rfl hz (by decide) (fun Ys zz kk s20 => ?_)
    replace s2 := ku s2
    replace s3 := ku s3
    replace s4 := ku s4
    replace s8 := ku s8
    replace hz := zz
    clear kk zz s19 Yr
    refine vq true _ (want_none rfl) (fun hc v hv => ex_move rfl (ev s20 rfl)) rfl hz (by decide) (fun Yt zz kk s21 => ?_)
    replace s2 := ku s2
    replace s3 := ku s3
    replace s4 := ku s4
    replace s8 := ku s8
    replace hz := zz
    clear kk zz s20 Ys
    refine vq _ (.pointer (some ⟨w.heap.size + 1, 1, none⟩)) (want_g rfl rfl s21) (fun hc v hv => ex_fa rfl (ev s3 rfl) (faS1 _ _)) rfl hz (by decide) (fun Yu zz kk s22 => ?_)
    replace s2 := ku s2
    replace s3 := ku s3
    replace s4 := ku s4
    replace s8 := ku s8
    replace s21 := ku s21
    replace hz := zz
    clear kk zz Yt
    refine vq _ (.int .i64 s.st) (want_g rfl rfl s21) (fun hc v hv => ex_ld rfl (ev s22 hc) (ldT8 (cell8 (HS.cell 1 _ rfl) hv))) rfl hz (by decide) (fun Yv zz kk s23 => ?_)
    replace s2 := ku s2
    replace s3 := ku s3
    replace s4 := ku s4
    replace s8 := ku s8
    replace s21 := ku s21
    replace hz := zz
    clear kk zz s22 Yu
    refine vq _ (.bool (decide (s.st = 1))) (want_g rfl rfl s21) (fun hc v hv => ex_bin rfl (ev s23 hc) rfl (eqlT8 _ _ _ _ _)) rfl hz (by decide) (fun Yw zz kk s24 => ?_)
    replace s2 := ku s2
    replace s3 := ku s3
    replace s4 := ku s4
    replace s8 := ku s8
    replace s21 := ku s21
    replace hz := zz
    clear kk zz s23 Yv
    refine vq _ _ (want_g rfl rfl s21) (fun hc v hv => ex_move rfl (ev s24 hc)) rfl hz (by decide) (fun Yx zz kk s25 => ?_)
    replace s2 := ku s2
    replace s3 := ku s3
    replace s4 := ku s4
    replace s8 := ku s8
    replace s21 := ku s21
    replace hz := zz
    clear kk zz s24 Yw
    refine vq ((true && ((decide (s.st = 3)) == false)) && ((decide (s.st = 1)) == true)) (.pointer (some ⟨w.heap.size + 1, 0, none⟩)) (want_g rfl rfl s25) (fun hc v hv => ex_fa rfl (ev s3 rfl) (faS0 _ _)) rfl hz (by decide) (fun Yy zz kk s26 => ?_)
    replace s2 := ku s2
    replace s3 := ku s3
    replace s4 := ku s4
    replace s8 := ku s8
    replace s21 := ku s21
    replace s25 := ku s25
    replace hz := zz
    clear kk zz Yx
    refine vq ((true && ((decide (s.st = 3)) == false)) && ((decide (s.st = 1)) == true)) (.int .i64 s.self) (want_g rfl rfl s25) (fun hc v hv => ex_ld rfl (ev s26 hc) (ldI8 (cell8 (HS.cell 0 _ rfl) hv))) rfl hz (by decide) (fun Yz zz kk s27 => ?_)
    replace s2 := ku s2
    replace s3 := ku s3
    replace s4 := ku s4
    replace s8 := ku s8
    replace s21 := ku s21
    replace s25 := ku s25
    replace hz := zz
    clear kk zz s26 Yy
    refine vq ((true && ((decide (s.st = 3)) == false)) && ((decide (s.st = 1)) == true)) (c.val) (want_g rfl rfl s25) (fun hc v hv => ex_ld rfl (ev s2 rfl) (CB7.ld (HC.bel hv))) rfl hz (by decide) (fun Y0 zz kk s28 => ?_)
    replace s2 := ku s2
    replace s3 := ku s3
    replace s4 := ku s4
    replace s8 := ku s8
    replace s21 := ku s21
    replace s25 := ku s25
    replace s27 := ku s27
    replace hz := zz
    clear kk zz Yz
    refine vq ((true && ((decide (s.st = 3)) == false)) && ((decide (s.st = 1)) == true)) (.pointer (some ⟨w.heap.size + 1, 2, none⟩)) (want_g rfl rfl s25) (fun hc v hv => ex_fa rfl (ev s3 rfl) (faS2 _ _)) rfl hz (by decide) (fun Y1 zz kk s29 => ?_)
    replace s2 := ku s2
    replace s3 := ku s3
    replace s4 := ku s4
    replace s8 := ku s8
    replace s21 := ku s21
    replace s25 := ku s25
    replace s27 := ku s27
    replace s28 := ku s28
    replace hz := zz
    clear kk zz Y0
    refine vq ((true && ((decide (s.st = 3)) == false)) && ((decide (s.st = 1)) == true)) (.int .i64 s.view) (want_g rfl rfl s25) (fun hc v hv => ex_ld rfl (ev s29 hc) (ldI8 (cell8 (HS.cell 2 _ rfl) hv))) rfl hz (by decide) (fun Y2 zz kk s30 => ?_)
    replace s2 := ku s2
    replace s3 := ku s3
    replace s4 := ku s4
    replace s8 := ku s8
    replace s21 := ku s21
    replace s25 := ku s25
    replace s27 := ku s27
    replace s28 := ku s28
    replace hz := zz
    clear kk zz s29 Y1
    refine vq_call ((true && ((decide (s.st = 3)) == false)) && ((decide (s.st = 1)) == true)) (.int .i64 (c.pr (s.view))) (want_g rfl rfl s25) (fun hc v hv => ex_call rfl (by simp only [List.map_toArray, List.map_cons, List.map_nil, (ev s28 hc), (ev s30 hc), evc] <;> rfl) rfl) (fun hc v hv => (bel8 hv (rprimary9 c (s.view) v))) rfl hz (by decide) (fun Y3 zz kk s31 => ?_)
    replace s2 := ku s2
    replace s3 := ku s3
    replace s4 := ku s4
    replace s8 := ku s8
    replace s21 := ku s21
    replace s25 := ku s25
    replace s27 := ku s27
    replace hz := zz
    clear kk zz s28 s30 Y2
    refine vq ((true && ((decide (s.st = 3)) == false)) && ((decide (s.st = 1)) == true)) (.bool (decide (s.self = (c.pr (s.view))))) (want_g rfl rfl s25) (fun hc v hv => ex_bin rfl (ev s27 hc) (ev s31 hc) (eqlC _ _ _ _ _)) rfl hz (by decide) (fun Y4 zz kk s32 => ?_)
    replace s2 := ku s2
    replace s3 := ku s3
    replace s4 := ku s4
    replace s8 := ku s8
    replace s21 := ku s21
    replace s25 := ku s25
    replace hz := zz
    clear kk zz s27 s31 Y3
    refine vq _ (.bool ((decide (s.st = 1)) && (decide (s.self = (c.pr (s.view)))))) (want_g rfl rfl s21) (fun hc v hv => ex_and rfl s25 s32 hc) rfl hz (by decide) (fun Y5 zz kk s33 => ?_)
    replace s2 := ku s2
    replace s3 := ku s3
    replace s4 := ku s4
    replace s8 := ku s8
    replace s21 := ku s21
    replace hz := zz
    clear kk zz s25 s32 Y4
    refine vq true (.bool ((decide (s.st = 3)) || ((decide (s.st = 1)) && (decide (s.self = (c.pr (s.view))))))) (want_none rfl) (fun hc v hv => ex_or rfl s21 s33 rfl) rfl hz (by decide) (fun Y6 zz kk s34 => ?_)
    replace s2 := ku s2
    replace s3 := ku s3
    replace s4 := ku s4
    replace s8 := ku s8
    replace hz := zz
    clear kk zz s21 s33 Y5
    refine vq_nil (fun x21 hx21 => ?_)
    have hB := hB.trans (hx21.mono (by omega))
    have HT := HT.bel hx21
    have HC := HC.bel hx21
    have HZ := HZ.bel hx21
    have hb5 := hb5.trans (hx21.mono (by omega))
    have hz7 := hx21.size
    have hv3 : Below x21.heap.size x21 x21 := Below.refl _ _
    go_upto_region 6 with fail
    cases e34 : ((decide (s.st = 3)) || ((decide (s.st = 1)) && (decide (s.self = (c.pr (s.view))))))
    rotate_left
    · refine wp_cond_true ((ev s34 rfl).trans (congrArg Value.bool e34)) ?_
      go_upto_region 6 with fail
      refine wp_region_lit ?_
      refine vt (t.val) (ex_ld rfl (ev s8 rfl) (SB7.ld (HT.bel hv3))) hz (fun Y7 zz kk s35 => ?_)
      replace s4 := ku s4
      replace hz := zz
      clear kk zz s2 s3 s8
      refine vs (sets x21 (w.heap.size + 2) 0 (Sta.cs t)) (want_none rfl) (ex_st rfl (ev s4 rfl) (ev s35 rfl) (st12 HZ t)) rfl ?_
      have HP := SB7.put HZ t
      have UP := upd12 x21 (w.heap.size + 2) t
      obtain ⟨u9, hu9⟩ : ∃ v, v = sets x21 (w.heap.size + 2) 0 (Sta.cs t) := ⟨_, rfl⟩
      rw [← hu9] at HP UP ⊢
      clear hu9
      refine vt (.bool false) (ex_assign rfl rfl) hz (fun Y8 zz kk s5 => ?_)
      replace s4 := ku s4
      replace hz := zz
      clear kk zz s35 Y7
      refine vt (.int .i64 0) (ex_assign rfl rfl) hz (fun Y9 zz kk s6 => ?_)
      replace s4 := ku s4
      replace s5 := ku s5
      replace hz := zz
      clear kk zz Y8
      refine wpList_nil ?_
      have hk := (hk.later8 hb5).set8 UP (by omega) hlo
      have hB9 := hide (hB.trans (UP.below (by omega) (fun k hk => by omega)))
      go_wp2
      refine bodyPost_ret (results_sta3 rfl (getD_of s4) (getD_of s5) (getD_of s6) HP) rfl ?_
      rw [hE]
      refine ⟨t, false, rfl, hk.inn, .inr ⟨hE, t, hk.low8 (by omega), hlo.low (by omega), ?_, ?_⟩, hB9.out⟩
      · rw [show wtI8 c s = s.idle from by unfold wtI8; exact if_pos e34, ← hk.idle]
      · rw [show still8 c s = true from e34]; rfl
    refine wp_cond_false ((ev s34 rfl).trans (congrArg Value.bool e34)) ?_
    clear s34 s3
    have hti : t.idle = s.idle := hk.idle
    have hst : still8 c s = false := e34
    have hwt : wtI8 c s = (s.idle + 1) % c.P := by unfold wtI8; rw [hst]; rfl
    go_upto_region 7 with fail
    refine wp_region_lit ?_
    refine vt (.pointer (some ⟨q8, 7, none⟩)) (ex_fa rfl (ev s8 rfl) (faS7 _ _)) hz (fun Yba zz kk s36 => ?_)
    replace s2 := ku s2
    replace s4 := ku s4
    replace s8 := ku s8
    replace hz := zz
    clear kk zz
    refine vt (.int .i64 t.idle) (ex_ld rfl (ev s36 rfl) (ldI8 (cell8 (HT.cell 7 _ rfl) hv3))) hz (fun Ybb zz kk s37 => ?_)
    replace s2 := ku s2
    replace s4 := ku s4
    replace s8 := ku s8
    replace hz := zz
    clear kk zz s36 Yba
    refine vt (.int .i64 (t.idle + 1)) (ex_bin rfl (ev s37 rfl) rfl (addD8 _ _ t.idle 1 (t.idle + 1) (by rw [IntKind.wrap_i64]; omega) _)) hz (fun Ybc zz kk s38 => ?_)
    replace s2 := ku s2
    replace s4 := ku s4
    replace s8 := ku s8
    replace hz := zz
    clear kk zz s37 Ybb
    refine vt (.pointer (some ⟨q8, 7, none⟩)) (ex_fa rfl (ev s8 rfl) (faS7 _ _)) hz (fun Ybd zz kk s39 => ?_)
    replace s2 := ku s2
    replace s4 := ku s4
    replace s8 := ku s8
    replace s38 := ku s38
    replace hz := zz
    clear kk zz Ybc
    refine vs (x21.setCell ⟨q8, 7, none⟩ (.int .i64 (t.idle + 1))) (want_none rfl) (ex_st rfl (ev s39 rfl) (ev s38 rfl) (stI8 (HT.cell 7 _ rfl) (HT.free 7) _)) rfl ?_
    have HTn := HT.set (j := 7) (by simp [Sta.cs]) (.int .i64 (t.idle + 1))
    have UT : Upd (fun k => k = q8) x21 (x21.setCell ⟨q8, 7, none⟩ (.int .i64 (t.idle + 1))) := (Upd.refl (fun k => k = q8) _).setCell (p := ⟨q8, 7, none⟩) (.inl rfl) _
    obtain ⟨x8, hx8⟩ : ∃ v, v = x21.setCell ⟨q8, 7, none⟩ (.int .i64 (t.idle + 1)) := ⟨_, rfl⟩
    rw [← hx8] at HTn UT ⊢
    clear hx8 HT
    have HT : SB7 x8 q8 { t with idle := t.idle + 1 } := HTn
    clear HTn
    have HC := HC.upd UT (by show ¬ w.heap.size = q8; omega)
    have HZ := HZ.upd UT (by show ¬ w.heap.size + 2 = q8; omega)
    have hzx8 := UT.size
    have hb5 := hb5.trans (UT.below (by omega) (fun k hk => by omega))
    have hB := hB.trans (UT.below (by omega) (fun k hk => by omega))
    clear UT
    have hvx8 : Below x8.heap.size x8 x8 := Below.refl _ _
    clear s38 s39
    refine wpList_nil ?_
    go_upto_region 8 with fail
    refine wp_region_lit ?_
    refine vt (.pointer (some ⟨q8, 7, none⟩)) (ex_fa rfl (ev s8 rfl) (faS7 _ _)) hz (fun Ybe zz kk s40 => ?_)
    replace s2 := ku s2
    replace s4 := ku s4
    replace s8 := ku s8
    replace hz := zz
    clear kk zz
    refine vt (.int .i64 (t.idle + 1)) (ex_ld rfl (ev s40 rfl) (ldI8 (cell8 (HT.cell 7 _ rfl) hvx8))) hz (fun Ybf zz kk s41 => ?_)
    replace s2 := ku s2
    replace s4 := ku s4
    replace s8 := ku s8
    replace hz := zz
    clear kk zz s40 Ybe
    refine vt (.pointer (some ⟨w.heap.size, 2, none⟩)) (ex_fa rfl (ev s2 rfl) (faC2 _ _)) hz (fun Ybg zz kk s42 => ?_)
    replace s4 := ku s4
    replace s8 := ku s8
    replace s41 := ku s41
    replace hz := zz
    clear kk zz s2 Ybf
    refine vt (.int .i64 c.P) (ex_ld rfl (ev s42 rfl) (ldI8 (cell8 (HC.cell 2 _ rfl) hvx8))) hz (fun Ybh zz kk s43 => ?_)
    replace s4 := ku s4
    replace s8 := ku s8
    replace s41 := ku s41
    replace hz := zz
    clear kk zz s42 Ybg
    refine vt (.bool (decide ((t.idle + 1) = c.P))) (ex_bin rfl (ev s41 rfl) (ev s43 rfl) (eqlC _ _ _ _ _)) hz (fun Ybi zz kk s44 => ?_)
    replace s4 := ku s4
    replace s8 := ku s8
    replace hz := zz
    clear kk zz s41 s43 Ybh
    refine wpList_nil ?_
    go_upto_region 9 with fail
    cases e44 : decide (t.idle + 1 = c.P)
    rotate_left
    · refine wp_cond_true ((ev s44 rfl).trans (congrArg Value.bool e44)) ?_
      clear s44
      have hw0 : wtI8 c s = 0 := by have := of_decide_eq_true e44; rw [hwt, ← hti, this]; exact Int.emod_self
      go_upto_region 9 with fail
      refine wp_region_lit ?_
      refine vt (.pointer (some ⟨q8, 7, none⟩)) (ex_fa rfl (ev s8 rfl) (faS7 _ _)) hz (fun Ybj zz kk s45 => ?_)
      replace s4 := ku s4
      replace s8 := ku s8
      replace hz := zz
      clear kk zz
      refine vs (x8.setCell ⟨q8, 7, none⟩ (.int .i64 (0))) (want_none rfl) (ex_st rfl (ev s45 rfl) rfl (stI8 (HT.cell 7 _ rfl) (HT.free 7) _)) rfl ?_
      have HTn := HT.set (j := 7) (by simp [Sta.cs]) (.int .i64 (0))
      have UT : Upd (fun k => k = q8) x8 (x8.setCell ⟨q8, 7, none⟩ (.int .i64 (0))) := (Upd.refl (fun k => k = q8) _).setCell (p := ⟨q8, 7, none⟩) (.inl rfl) _
      obtain ⟨x9, hx9⟩ : ∃ v, v = x8.setCell ⟨q8, 7, none⟩ (.int .i64 (0)) := ⟨_, rfl⟩
      rw [← hx9] at HTn UT ⊢
      clear hx9 HT
      have HT : SB7 x9 q8 { t with idle := 0 } := HTn
      clear HTn
      have HC := HC.upd UT (by show ¬ w.heap.size = q8; omega)
      have HZ := HZ.upd UT (by show ¬ w.heap.size + 2 = q8; omega)
      have hzx9 := UT.size
      have hb5 := hb5.trans (UT.below (by omega) (fun k hk => by omega))
      have hB := hB.trans (UT.below (by omega) (fun k hk => by omega))
      clear UT
      have hvx9 : Below x9.heap.size x9 x9 := Below.refl _ _
      clear s45
      refine wpList_nil ?_
      go_upto_region 10 with fail
      refine wp_region_lit ?_
      refine vt (Sta.val { t with idle := 0 }) (ex_ld rfl (ev s8 rfl) (SB7.ld (HT.bel hvx9))) hz (fun Ybk zz kk s46 => ?_)
      replace s4 := ku s4
      replace hz := zz
      clear kk zz s8
      refine vs (sets x9 (w.heap.size + 2) 0 (Sta.cs { t with idle := 0 })) (want_none rfl) (ex_st rfl (ev s4 rfl) (ev s46 rfl) (st12 HZ { t with idle := 0 })) rfl ?_
      have HP := SB7.put HZ { t with idle := 0 }
      have UP := upd12 x9 (w.heap.size + 2) { t with idle := 0 }
      obtain ⟨u9, hu9⟩ : ∃ v, v = sets x9 (w.heap.size + 2) 0 (Sta.cs { t with idle := 0 }) := ⟨_, rfl⟩
      rw [← hu9] at HP UP ⊢
      clear hu9
      refine vt (.bool true) (ex_assign rfl rfl) hz (fun Ybl zz kk s5 => ?_)
      replace s4 := ku s4
      replace hz := zz
      clear kk zz s46 Ybk
      refine vt (.int .i64 0) (ex_assign rfl rfl) hz (fun Ybm zz kk s6 => ?_)
      replace s4 := ku s4
      replace s5 := ku s5
      replace hz := zz
      clear kk zz Ybl
      refine wpList_nil ?_
      have hk := (hk.later8 hb5).set8 UP (by omega) hlo
      have hB9 := hide (hB.trans (UP.below (by omega) (fun k hk => by omega)))
      go_wp2
      refine bodyPost_ret (results_sta3 rfl (getD_of s4) (getD_of s5) (getD_of s6) HP) rfl ?_
      rw [hE]
      refine ⟨{ t with idle := 0 }, true, rfl, hk.inn.idle8, .inr ⟨hE, t, hk.low8 (by omega), hlo.low (by omega), ?_, ?_⟩, hB9.out⟩
      · rw [hw0]
      · rw [hst, hw0]; rfl
    refine wp_cond_false ((ev s44 rfl).trans (congrArg Value.bool e44)) ?_
    clear s44
    have hw1 : wtI8 c s = t.idle + 1 := by have := of_decide_eq_false e44; rw [hwt, ← hti]; exact Int.emod_eq_of_lt (by omega) (by omega)
    go_upto_region 11 with fail
    refine wp_region_lit ?_
    refine vt (Sta.val { t with idle := t.idle + 1 }) (ex_ld rfl (ev s8 rfl) (SB7.ld (HT.bel hvx8))) hz (fun Ybn zz kk s47 => ?_)
    replace s4 := ku s4
    replace hz := zz
    clear kk zz s8
    refine vs (sets x8 (w.heap.size + 2) 0 (Sta.cs { t with idle := t.idle + 1 })) (want_none rfl) (ex_st rfl (ev s4 rfl) (ev s47 rfl) (st12 HZ { t with idle := t.idle + 1 })) rfl ?_
    have HP := SB7.put HZ { t with idle := t.idle + 1 }
    have UP := upd12 x8 (w.heap.size + 2) { t with idle := t.idle + 1 }
    obtain ⟨u9, hu9⟩ : ∃ v, v = sets x8 (w.heap.size + 2) 0 (Sta.cs { t with idle := t.idle + 1 }) := ⟨_, rfl⟩
    rw [← hu9] at HP UP ⊢
    clear hu9
    refine vt (.bool false) (ex_assign rfl rfl) hz (fun Ybo zz kk s5 => ?_)
    replace s4 := ku s4
    replace hz := zz
    clear kk zz s47 Ybn
    refine vt (.int .i64 0) (ex_assign rfl rfl) hz (fun Ybp zz kk s6 => ?_)
    replace s4 := ku s4
    replace s5 := ku s5
    replace hz := zz
    clear kk zz Ybo
    refine wpList_nil ?_
    have hk := (hk.later8 hb5).set8 UP (by omega) hlo
    have hB9 := hide (hB.trans (UP.below (by omega) (fun k hk => by omega)))
    go_wp2
    refine bodyPost_ret (results_sta3 rfl (getD_of s4) (getD_of s5) (getD_of s6) HP) rfl ?_
    rw [hE]
    refine ⟨{ t with idle := t.idle + 1 }, false, rfl, hk.inn.idle8, .inr ⟨hE, t, hk.low8 (by omega), hlo.low (by omega), ?_, ?_⟩, hB9.out⟩
    · rw [hw1]
    · rw [hst, hw1, decide_eq_false (by omega)]; rfl
end Go.Proofs.YtphdnmamopgelaaGreat
