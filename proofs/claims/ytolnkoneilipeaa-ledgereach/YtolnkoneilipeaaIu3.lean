import Derived.Test.YtolnkoneilipeaaLx
import Derived.Test.YtolnkoneilipeaaGYa
import Derived.Test.YtolnkoneilipeaaIu2
import Derived.Laws.EntriesVeiled
namespace Go.Proofs.Ytolnkoneilipeaa
open Go.RowKit Go.Shelf
open Classical
set_option linter.unusedVariables false
attribute [local go_sem] Oper.semAt_some

/-- What holds ahead of a turn. -/
structure TI (w8 : World) (t pt : Nat) (rs : List Nat) (ds : List Deferred) (W : World) : Prop where
  le : t ≤ 3
  pl : w8.heap.size ≤ pt
  cell : W.cell? ⟨pt, 0, none⟩ = some (.int .i64 (t : Int))
  fz : W.frozen? ⟨pt, 0, none⟩ = false
  bel : Below w8.heap.size w8 W
  marks : Marks W rs ds
  low : ∀ r, r ∈ rs → w8.heap.size ≤ r
def tmeas (a : Act) (W : World) : Nat := match a.tmps.getD 8 undef with
  | .pointer (some p) => 3 - (intOf ((W.cell? p).getD undef)).toNat
  | _ => 0
theorem wpIn_loop_k {F : Fence} {n : Nat} {P : Program} {Q : Exit → Act → World → Prop} {a : Act} {w : World} {c : Code} (I : Act → World → Prop) (m : Act → World → Nat) (h0 : I a w)
    (round : ∀ a w, I a w → ∀ K : Act → World → Prop, Hid (∀ a' w', I a' w' → m a' w' < m a w → K a' w') → c.wpIn F n P (Exit.then K Q) a w) : (Code.loop c).wpIn F n P Q a w :=
  wpIn_loop I m h0 fun a w h => round a w h _ (hide (fun _ _ h1 h2 => ⟨h1, h2⟩))
/-- What a round keeps: the counter's cell alone has changed. -/
structure EI (wR : World) (pn i : Nat) (V : World) : Prop where
  upd : Upd (· = pn) wR V
  cell : V.cell? ⟨pn, 0, none⟩ = some (.int .i64 (i : Int))
  fz : V.frozen? ⟨pn, 0, none⟩ = false
theorem EI.row {wR V V' : World} {pn i : Nat} {row : Option Nat} (h : EI wR pn i V) (hg : V.grownBy V' row) (hr : ∀ r, row = some r → r ≠ pn ∧ wR.heap.size ≤ r) : EI wR pn i V' :=
  ⟨h.upd.grownBy hg (fun k e hk => by have := (hr k e).2; omega), gcell hg h.cell (fun e => (hr _ e).1 rfl), gfroz hg (World.block_lt_of_cell? _ _ h.cell) h.fz (fun e => (hr _ e).1 rfl)⟩
theorem EI.set {wR V : World} {pn i : Nat} (h : EI wR pn i V) {v : Int} (hv : v = ((i + 1 : Nat) : Int)) : EI wR pn (i + 1) (V.setCell ⟨pn, 0, none⟩ (.int .i64 v)) :=
  ⟨h.upd.setCell (p := ⟨pn, 0, none⟩) (.inl rfl) _, by rw [hv]; exact setc_eq h.cell, setf h.fz⟩
theorem EI.on {wR V U : World} {pn i pm : Nat} (h : EI wR pn i V) (u : Upd (· = pm) V U) (hp : wR.heap.size ≤ pm) (hn : pn ≠ pm) : EI wR pn i U :=
  ⟨⟨u.os.trans h.upd.os, u.tape.trans h.upd.tape, u.output.trans h.upd.output, Nat.le_trans h.upd.size u.size, fun k hk hs => (u.block k (Nat.lt_of_lt_of_le hk h.upd.size) (by omega)).trans (h.upd.block k hk hs)⟩,
    (u.cell (p := ⟨pn, 0, none⟩) (World.block_lt_of_cell? _ _ h.cell) hn).trans h.cell, (u.frozen (p := ⟨pn, 0, none⟩) (World.block_lt_of_cell? _ _ h.cell) hn).trans h.fz⟩
theorem EI.new (w : World) (T : TypeId) : EI (w.alloc (.cells #[.int .i64 0] T)) w.heap.size 0 (w.alloc (.cells #[.int .i64 0] T)) :=
  ⟨Upd.refl _ _, by go_simp, by go_simp⟩
theorem neq_cl (x : Cl) (w : World) : (binOp .neq 29 (.agg #[.int .i64 x.1, .string x.2]) (.agg #[.int .i64 x.1, .string x.2])).run Try.prog w = .ok (.bool false) w := by
  go_simp
theorem func_nil12 (k : Nat) (w : World) : (binOp .eql 24 (.func (.func 12) #[] #[.pointer (some ⟨k, 0, none⟩)]) .nilFunc).run Try.prog w = .ok (.bool false) w := by kernel_rfl
set_option maxRecDepth 100000 in
set_option maxHeartbeats 4000000 in
theorem each4_walk (D : List Cl) (a : Option Addr) (c : Nat) (stop : Int) (w : World) (hD : SlC w (.slice a D.length c) D a c) (hDw : ∀ p ∈ D, (Lit.int .i64 p.1).wf = true ∧ p.2.size ≤ maxLen) (hDl : D.length * 24 ≤ 140737488351232) (hs : (Lit.int .i64 stop).wf = true) :
    Calls Try.prog 3 #[.slice a D.length c, .int .i64 stop] w fun e w' => e = .returned (.bool true) ∧ Below w.heap.size w w' := by
  have HD := hide hD
  have hmx := hD.max
  have hcp := hD.cap
  unfold maxLen at hmx
  have hdl := hide (show D.length * 24 ≤ 140737488355328 by omega)
  clear hD hDw
  refine (callsIn_wide (n := 6)).1 ?_
  refine callsIn_of_wp_marks Try.func3 rfl trivial ?_ rfl
  simp only [Try.ntmps3, List.size_toArray, List.length_cons, List.length_nil, Nat.reduceAdd, Nat.reduceSub, Array.replicate_succ, Array.replicate_zero, List.push_toArray, List.append_toArray, List.nil_append, List.cons_append]
  obtain ⟨w1, hw1⟩ : ∃ w1, (((w.alloc (Obj.cells #[Value.slice a D.length c] 22)).alloc (Obj.cells #[Value.int .i64 stop] 3)).alloc (Obj.cells #[Value.bool false] 4)) = w1 := ⟨_, rfl⟩
  have b1 : Below w.heap.size w w1 := by rw [← hw1]; exact (((Below.refl _ _).alloc (Nat.le_refl _) _).alloc (by simp) _).alloc (by simp; omega) _
  have z1 := hide (show w1.heap.size = w.heap.size + 3 by rw [← hw1]; simp)
  have c2 : w1.cell? ⟨w.heap.size, 0, none⟩ = some (.slice a D.length c) := by subst hw1; go_simp
  have c3 : w1.cell? ⟨w.heap.size + 1, 0, none⟩ = some (.int .i64 stop) := by subst hw1; go_simp
  have c4 : w1.cell? ⟨w.heap.size + 1 + 1, 0, none⟩ = some (.bool false) := by subst hw1; go_simp
  have f4 : w1.frozen? ⟨w.heap.size + 1 + 1, 0, none⟩ = false := by subst hw1; go_simp
  refine wpIn_wide.2 ?_
  go_wp2_with (at_builtin; go_must (refine app_slC _ rfl (.tmp 15) (.tmp 16) rfl w1.heap.size [] _ rfl a c D rfl (HD.out.later b1) (OwnC.nil _ _) (Nat.le_refl _) (by simpa using hdl.out) ?_))
  intro v2 w2 o2 hg2
  have b2 : Below w1.heap.size w1 w2 := (Below.refl _ w1).grown hg2 (Nat.le_refl _) (fun k hk => by cases hk)
  clear hg2 hw1
  obtain ⟨ag, cg, sl2, hag⟩ := o2.sl
  have hv2 := sl2.form
  subst hv2
  go_wp2_with fail
  refine (each_any D ag cg w2 sl2 hdl.out).mono ?_
  rintro e w3 ⟨g, k, rfl, hg, hk, hk2, kc, o3, b3⟩
  have sl3 : ∀ W, Below w3.heap.size w3 W → SlC W (.slice ag D.length cg) D ag cg := fun W hW => (sl2.later b3).later hW
  have HS3 := hide sl3
  have hn6 := func_nil12 k
  have z2 := b2.size
  have z3 := b3.size
  have c2 := (b3.cell (p := ⟨w.heap.size, 0, none⟩) (by show w.heap.size < _; have := z1.out; omega)).trans ((b2.cell (p := ⟨w.heap.size, 0, none⟩) (by show w.heap.size < _; have := z1.out; omega)).trans c2)
  have c3 := (b3.cell (p := ⟨w.heap.size + 1, 0, none⟩) (by show w.heap.size + 1 < _; have := z1.out; omega)).trans ((b2.cell (p := ⟨w.heap.size + 1, 0, none⟩) (by show w.heap.size + 1 < _; have := z1.out; omega)).trans c3)
  have c4 := (b3.cell (p := ⟨w.heap.size + 1 + 1, 0, none⟩) (by show w.heap.size + 1 + 1 < _; have := z1.out; omega)).trans ((b2.cell (p := ⟨w.heap.size + 1 + 1, 0, none⟩) (by show w.heap.size + 1 + 1 < _; have := z1.out; omega)).trans c4)
  have f4 := (b3.frozen (p := ⟨w.heap.size + 1 + 1, 0, none⟩) (by show w.heap.size + 1 + 1 < _; have := z1.out; omega)).trans ((b2.frozen (p := ⟨w.heap.size + 1 + 1, 0, none⟩) (by show w.heap.size + 1 + 1 < _; have := z1.out; omega)).trans f4)
  have y0 : w.heap.size < w3.heap.size := by have := z1.out; omega
  have y1 : w.heap.size + 1 < w3.heap.size := by have := z1.out; omega
  have y2 : w.heap.size + 1 + 1 < w3.heap.size := by have := z1.out; omega
  go_wp2_with fail
  refine (samecells_any D D ag a cg c _ (HS3.out _ ((Below.refl _ _).alloc (Nat.le_refl _) _)) (((HD.out.later b1).later b2).later (b3.trans ((Below.refl _ _).alloc (by have := b3.size; omega) _)))).mono ?_
  rintro e w4 ⟨rfl, nq, hq4⟩
  have hDD : decide (D = D) = true := by simp
  rw [hDD]
  have b4 : Below w3.heap.size w3 w4 := by rw [hq4]; exact belN ((Below.refl _ _).alloc (Nat.le_refl _) _) nq
  have z4 : w3.heap.size < w4.heap.size := by rw [hq4]; simp [World.drewN]
  have c6 : w4.cell? ⟨w3.heap.size, 0, none⟩ = some (.func (.func 12) #[] #[.pointer (some ⟨k, 0, none⟩)]) := by rw [hq4]; go_simp
  have c2 := (b4.cell (p := ⟨w.heap.size, 0, none⟩) y0).trans c2
  have c3 := (b4.cell (p := ⟨w.heap.size + 1, 0, none⟩) y1).trans c3
  have c4 := (b4.cell (p := ⟨w.heap.size + 1 + 1, 0, none⟩) y2).trans c4
  have f4 := (b4.frozen (p := ⟨w.heap.size + 1 + 1, 0, none⟩) y2).trans f4
  have kc := (b4.cell (p := ⟨k, 0, none⟩) hk2).trans kc
  have o4 := o3.grow b4
  have ow4 : OwnC w1.heap.size w4 (.slice ag D.length cg) D := (o2.grow b3).grow b4
  have sd4 : SlC w4 (.slice a D.length c) D a c := (((HD.out.later b1).later b2).later b3).later b4
  have bw4 : Below w.heap.size w w4 := ((b1.trans (b2.mono (by have := z1.out; omega))).trans (b3.mono (by have := z1.out; omega))).trans (b4.mono (by have := z1.out; omega))
  have hgz : g < w3.heap.size := by
    obtain ⟨_, _, e, _, _, _, hx⟩ := o3.form
    injection e with e1 e2 e3
    obtain ⟨g', e4, _, h5⟩ := hx ⟨g, 0, none⟩ e1.symm
    injection e4 with e4
    omega
  have hab := hide (show ∀ x, a = some x → D ≠ [] → x.block < w.heap.size from fun x hx hne => by
    obtain ⟨q, o, e, hq', _⟩ := HD.out.place hne
    rw [hx] at e
    cases e
    exact hq')
  have HO4 := hide o4
  have HW4 := hide ow4
  have HD4 := hide sd4
  have HB4 := hide bw4
  have hagz := hide (show ∀ z, ag = some z → w1.heap.size ≤ z.block ∧ z.block < w2.heap.size from hag)
  have hcg : D.length ≤ cg ∧ cg ≤ maxLen := by
    obtain ⟨_, _, e, h1, h2, _, _⟩ := o2.form
    injection e with e1 e2 e3
    omega
  obtain ⟨hcg1, hcg2⟩ := hcg
  unfold maxLen at hcg2
  clear hq4 o4 ow4 sd4 bw4 o3 sl3 sl2 o2 HS3 hag b1 HD
  go_wp2
  go_loopw [7] (fun i wr => ∃ (j : Nat) (X : List Cl), i = .int .i64 (j : Int) ∧ j ≤ D.length ∧ X.length = D.length ∧ OwnC w1.heap.size wr (.slice ag D.length cg) X ∧ Upd (fun q => ∃ z, ag = some z ∧ q = z.block) w4 wr) (fun i _ => D.length - (intOf i).toNat)
  case atStart => exact ⟨0, D, rfl, Nat.zero_le _, rfl, HW4.out, Upd.refl _ _⟩
  case round =>
    obtain ⟨j, X, rfl, hj, hX, oX, uX⟩ := hrel
    by_cases hlt : j < D.length
    · obtain ⟨go, rfl⟩ : ∃ go, ag = some ⟨go, 0, none⟩ := by
        cases ag with
        | none =>
          obtain ⟨_, _, e, _, _, hn, _⟩ := oX.form
          injection e with e1 e2 e3
          have := (hn e1.symm).1
          rw [this] at hX
          simp at hX
          omega
        | some z =>
          obtain ⟨_, _, e, _, _, _, hx⟩ := oX.form
          injection e with e1 e2 e3
          obtain ⟨g', e4, _⟩ := hx z e1.symm
          exact ⟨g', by rw [e4]⟩
      obtain ⟨dk, hgk⟩ : ∃ d, X[j]? = some d := ⟨_, List.getElem?_eq_getElem (show j < X.length by omega)⟩
      obtain ⟨e0, e1⟩ := oX.cell j _ hgk
      have fz0 := oX.free (j * 2)
      have fz1 := oX.free (j * 2 + 1)
      have oN := hide (oX.set j (-1) ⟨#[115, 112, 111, 105, 108, 116]⟩)
      have hXl := hide (show (X.set j (-1, ⟨#[115, 112, 111, 105, 108, 116]⟩)).length = D.length by simp [hX])
      have uXh := hide uX
      clear hgk hX oX uX
      go_wp2
      go_round
      case rel => exact ⟨j + 1, _, by go_num, by omega, hXl.out, oN.out, (uXh.out.setCell (p := ⟨go, j * 2, none⟩) (.inl ⟨_, rfl, rfl⟩) _).setCell (p := ⟨go, j * 2 + 1, none⟩) (.inl ⟨_, rfl, rfl⟩) _⟩
      case measure => simp [intOf]; omega
    · have hns : ∀ q, (q < w1.heap.size ∨ w2.heap.size ≤ q) → ¬ ∃ z, ag = some z ∧ q = z.block := by
        rintro q hq ⟨z, e, rfl⟩
        have := hagz.out z e
        omega
      have hz1 := z1.out
      have d2 := (uX.cell (p := ⟨w.heap.size, 0, none⟩) (by show w.heap.size < _; omega) (hns _ (.inl (by show w.heap.size < _; omega)))).trans c2
      have d3 := (uX.cell (p := ⟨w.heap.size + 1, 0, none⟩) (by show w.heap.size + 1 < _; omega) (hns _ (.inl (by show w.heap.size + 1 < _; omega)))).trans c3
      have d4 := (uX.cell (p := ⟨w.heap.size + 1 + 1, 0, none⟩) (by show w.heap.size + 1 + 1 < _; omega) (hns _ (.inl (by show w.heap.size + 1 + 1 < _; omega)))).trans c4
      have g4 := (uX.frozen (p := ⟨w.heap.size + 1 + 1, 0, none⟩) (by show w.heap.size + 1 + 1 < _; omega) (hns _ (.inl (by show w.heap.size + 1 + 1 < _; omega)))).trans f4
      have d6 := (uX.cell (p := ⟨w3.heap.size, 0, none⟩) z4 (hns _ (.inr (by show _ ≤ w3.heap.size; omega)))).trans c6
      have dk := (uX.cell (p := ⟨k, 0, none⟩) (by show k < _; omega) (hns _ (.inr (by show _ ≤ k; omega)))).trans kc
      have dl : LieC wr g 0 D := fun i d hd => by
        obtain ⟨e0, e1⟩ := HO4.out.cell i d hd
        rw [Nat.zero_add]
        exact ⟨(uX.cell (p := ⟨g, i * 2, none⟩) (by show g < _; omega) (hns _ (.inr (by show _ ≤ g; omega)))).trans e0, (uX.cell (p := ⟨g, i * 2 + 1, none⟩) (by show g < _; omega) (hns _ (.inr (by show _ ≤ g; omega)))).trans e1⟩
      have ds : SlC wr (.slice a D.length c) D a c := HD4.out.upd uX (fun x hx hne => by
        refine hns _ (.inl ?_)
        have := hab.out x hx hne
        omega)
      have db : Below w.heap.size w wr := HB4.out.trans (uX.below (by omega) (fun q hq => by
        obtain ⟨z, e, rfl⟩ := hq
        have := hagz.out z e
        omega))
      have zr := uX.size
      have hm : w3.heap.size < wr.heap.size := by omega
      have hgr : g < wr.heap.size := by omega
      have hkr : k < wr.heap.size := by omega
      have HL := hide dl
      have HS := hide ds
      have HB := hide db
      clear dl ds db uX oX hX hns HW4 HO4 HD4 HB4 c2 c3 c4 f4 c6 kc b2 b3 b4 z2 z3
      go_wp2
      obtain ⟨w8, hw8⟩ : ∃ w8, wr = w8 := ⟨_, rfl⟩
      rw [hw8] at d2 d3 d4 g4 d6 dk HL HS HB hm hgr hkr zr ⊢
      clear hw8
      refine (wpIn_wide (n := 6)).1 ?_
      refine wpIn_loop_k (fun a' W => ∃ (t pt : Nat) (rs : List Nat) (ds : List Deferred) (u0 u1 u5 u7 u9 u10 u11 u12 u13 u14 u15 u16 u17 u18 u19 u20 u21 u22 u23 u24 u25 u26 u27 u28 u29 u30 u31 u32 u33 u34 u35 u36 u37 u38 u39 u40 u41 u42 u43 u44 u45 u46 u47 u48 u49 u50 u51 u52 u53 u54 u55 u56 u57 u58 u59 u60 u61 u62 u63 u64 u65 u66 u67 u68 u69 u70 u71 u72 u73 u74 u75 u76 u77 u78 u79 u80 u81 u82 u83 u84 u85 u86 u87 u88 u89 u90 u91 u92 u93 u94 u95 u96 u97 u98 u99 u100 u101 u102 u103 u104 u105 u106 u107 u108 u109 u110 u111 u112 u113 u114 : Value), TI w8 t pt rs ds W ∧ a' = ⟨#[u0, u1, .pointer (some ⟨w.heap.size, 0, none⟩), .pointer (some ⟨w.heap.size + 1, 0, none⟩), .pointer (some ⟨w.heap.size + 1 + 1, 0, none⟩), u5, .pointer (some ⟨w3.heap.size, 0, none⟩), u7, .pointer (some ⟨pt, 0, none⟩), u9, u10, u11, u12, u13, u14, u15, u16, u17, u18, u19, u20, u21, u22, u23, u24, u25, u26, u27, u28, u29, u30, u31, u32, u33, u34, u35, u36, u37, u38, u39, u40, u41, u42, u43, u44, u45, u46, u47, u48, u49, u50, u51, u52, u53, u54, u55, u56, u57, u58, u59, u60, u61, u62, u63, u64, u65, u66, u67, u68, u69, u70, u71, u72, u73, u74, u75, u76, u77, u78, u79, u80, u81, u82, u83, u84, u85, u86, u87, u88, u89, u90, u91, u92, u93, u94, u95, u96, u97, u98, u99, u100, u101, u102, u103, u104, u105, u106, u107, u108, u109, u110, u111, u112, u113, u114], ds⟩) tmeas ?_ ?_
      · refine ⟨0, w8.heap.size, [], [], ?_⟩
        (repeat apply Exists.intro)
        refine ⟨⟨by omega, Nat.le_refl _, by go_simp, by go_simp, (Below.refl _ _).alloc (Nat.le_refl _) _, rfl, by simp⟩, rfl⟩
      · rintro a0 W ⟨t, pt, rs, ds, hinv⟩
        obtain ⟨u0, hinv⟩ := hinv
        obtain ⟨u1, hinv⟩ := hinv
        obtain ⟨u5, hinv⟩ := hinv
        obtain ⟨u7, hinv⟩ := hinv
        obtain ⟨u9, hinv⟩ := hinv
        obtain ⟨u10, hinv⟩ := hinv
        obtain ⟨u11, hinv⟩ := hinv
        obtain ⟨u12, hinv⟩ := hinv
        obtain ⟨u13, hinv⟩ := hinv
        obtain ⟨u14, hinv⟩ := hinv
        obtain ⟨u15, hinv⟩ := hinv
        obtain ⟨u16, hinv⟩ := hinv
        obtain ⟨u17, hinv⟩ := hinv
        obtain ⟨u18, hinv⟩ := hinv
        obtain ⟨u19, hinv⟩ := hinv
        obtain ⟨u20, hinv⟩ := hinv
        obtain ⟨u21, hinv⟩ := hinv
        obtain ⟨u22, hinv⟩ := hinv
        obtain ⟨u23, hinv⟩ := hinv
        obtain ⟨u24, hinv⟩ := hinv
        obtain ⟨u25, hinv⟩ := hinv
        obtain ⟨u26, hinv⟩ := hinv
        obtain ⟨u27, hinv⟩ := hinv
        obtain ⟨u28, hinv⟩ := hinv
        obtain ⟨u29, hinv⟩ := hinv
        obtain ⟨u30, hinv⟩ := hinv
        obtain ⟨u31, hinv⟩ := hinv
        obtain ⟨u32, hinv⟩ := hinv
        obtain ⟨u33, hinv⟩ := hinv
        obtain ⟨u34, hinv⟩ := hinv
        obtain ⟨u35, hinv⟩ := hinv
        obtain ⟨u36, hinv⟩ := hinv
        obtain ⟨u37, hinv⟩ := hinv
        obtain ⟨u38, hinv⟩ := hinv
        obtain ⟨u39, hinv⟩ := hinv
        obtain ⟨u40, hinv⟩ := hinv
        obtain ⟨u41, hinv⟩ := hinv
        obtain ⟨u42, hinv⟩ := hinv
        obtain ⟨u43, hinv⟩ := hinv
        obtain ⟨u44, hinv⟩ := hinv
        obtain ⟨u45, hinv⟩ := hinv
        obtain ⟨u46, hinv⟩ := hinv
        obtain ⟨u47, hinv⟩ := hinv
        obtain ⟨u48, hinv⟩ := hinv
        obtain ⟨u49, hinv⟩ := hinv
        obtain ⟨u50, hinv⟩ := hinv
        obtain ⟨u51, hinv⟩ := hinv
        obtain ⟨u52, hinv⟩ := hinv
        obtain ⟨u53, hinv⟩ := hinv
        obtain ⟨u54, hinv⟩ := hinv
        obtain ⟨u55, hinv⟩ := hinv
        obtain ⟨u56, hinv⟩ := hinv
        obtain ⟨u57, hinv⟩ := hinv
        obtain ⟨u58, hinv⟩ := hinv
        obtain ⟨u59, hinv⟩ := hinv
        obtain ⟨u60, hinv⟩ := hinv
        obtain ⟨u61, hinv⟩ := hinv
        obtain ⟨u62, hinv⟩ := hinv
        obtain ⟨u63, hinv⟩ := hinv
        obtain ⟨u64, hinv⟩ := hinv
        obtain ⟨u65, hinv⟩ := hinv
        obtain ⟨u66, hinv⟩ := hinv
        obtain ⟨u67, hinv⟩ := hinv
        obtain ⟨u68, hinv⟩ := hinv
        obtain ⟨u69, hinv⟩ := hinv
        obtain ⟨u70, hinv⟩ := hinv
        obtain ⟨u71, hinv⟩ := hinv
        obtain ⟨u72, hinv⟩ := hinv
        obtain ⟨u73, hinv⟩ := hinv
        obtain ⟨u74, hinv⟩ := hinv
        obtain ⟨u75, hinv⟩ := hinv
        obtain ⟨u76, hinv⟩ := hinv
        obtain ⟨u77, hinv⟩ := hinv
        obtain ⟨u78, hinv⟩ := hinv
        obtain ⟨u79, hinv⟩ := hinv
        obtain ⟨u80, hinv⟩ := hinv
        obtain ⟨u81, hinv⟩ := hinv
        obtain ⟨u82, hinv⟩ := hinv
        obtain ⟨u83, hinv⟩ := hinv
        obtain ⟨u84, hinv⟩ := hinv
        obtain ⟨u85, hinv⟩ := hinv
        obtain ⟨u86, hinv⟩ := hinv
        obtain ⟨u87, hinv⟩ := hinv
        obtain ⟨u88, hinv⟩ := hinv
        obtain ⟨u89, hinv⟩ := hinv
        obtain ⟨u90, hinv⟩ := hinv
        obtain ⟨u91, hinv⟩ := hinv
        obtain ⟨u92, hinv⟩ := hinv
        obtain ⟨u93, hinv⟩ := hinv
        obtain ⟨u94, hinv⟩ := hinv
        obtain ⟨u95, hinv⟩ := hinv
        obtain ⟨u96, hinv⟩ := hinv
        obtain ⟨u97, hinv⟩ := hinv
        obtain ⟨u98, hinv⟩ := hinv
        obtain ⟨u99, hinv⟩ := hinv
        obtain ⟨u100, hinv⟩ := hinv
        obtain ⟨u101, hinv⟩ := hinv
        obtain ⟨u102, hinv⟩ := hinv
        obtain ⟨u103, hinv⟩ := hinv
        obtain ⟨u104, hinv⟩ := hinv
        obtain ⟨u105, hinv⟩ := hinv
        obtain ⟨u106, hinv⟩ := hinv
        obtain ⟨u107, hinv⟩ := hinv
        obtain ⟨u108, hinv⟩ := hinv
        obtain ⟨u109, hinv⟩ := hinv
        obtain ⟨u110, hinv⟩ := hinv
        obtain ⟨u111, hinv⟩ := hinv
        obtain ⟨u112, hinv⟩ := hinv
        obtain ⟨u113, hinv⟩ := hinv
        obtain ⟨u114, hinv⟩ := hinv
        obtain ⟨ti, ha⟩ := hinv
        subst ha
        intro K HK
        have b := ti.bel
        have e2 := (b.cell (p := ⟨w.heap.size, 0, none⟩) (by show w.heap.size < _; omega)).trans d2
        have e3 := (b.cell (p := ⟨w.heap.size + 1, 0, none⟩) (by show w.heap.size + 1 < _; omega)).trans d3
        have e4 := (b.cell (p := ⟨w.heap.size + 1 + 1, 0, none⟩) (by show w.heap.size + 1 + 1 < _; omega)).trans d4
        have h4 := (b.frozen (p := ⟨w.heap.size + 1 + 1, 0, none⟩) (by show w.heap.size + 1 + 1 < _; omega)).trans g4
        have e6 := (b.cell (p := ⟨w3.heap.size, 0, none⟩) hm).trans d6
        have et := ti.cell
        have ft := ti.fz
        have ez := b.size
        have hpt := ti.pl
        have hptl := World.block_lt_of_cell? _ _ et
        dsimp only at hptl
        have HTI := hide ti
        have HC := hide (And.intro d2 (And.intro d3 (And.intro d6 dk)))
        clear ti d2 d3 d4 g4 d6
        by_cases ht : t < 3
        · have ht3 : decide ((t : Int) < 3) = true := by simp; omega
          have k6 : w3.heap.size < W.heap.size := by omega
          have k2 : w.heap.size < W.heap.size := by omega
          have k3 : w.heap.size + 1 < W.heap.size := by omega
          have k4 : w.heap.size + 1 + 1 < W.heap.size := by omega
          gi_wp2
          obtain ⟨wR, hwR⟩ : ∃ wR, W.alloc (Obj.cells #[Value.int .i64 0] 3) = wR := ⟨_, rfl⟩
          rw [hwR]
          have eR : EI wR W.heap.size 0 wR := by rw [← hwR]; exact EI.new W _
          have zR := hide (show wR.heap.size = W.heap.size + 1 by rw [← hwR]; simp)
          have bR : Below w8.heap.size w8 wR := by rw [← hwR]; exact b.alloc (by omega) _
          have bWR : Below W.heap.size W wR := by rw [← hwR]; exact (Below.refl _ _).alloc (Nat.le_refl _) _
          clear hwR
          have tR := (bWR.cell (p := ⟨pt, 0, none⟩) hptl).trans et
          have tF := (bWR.frozen (p := ⟨pt, 0, none⟩) hptl).trans ft
          have HTR := hide (And.intro tR tF)
          clear tR tF e2 e3 e4 h4 e6 et ft b
          refine over_it (n := 6) (by omega) (each2_in 5 (by omega) k g D hdl.out) (enters_of Try.func12 (by kernel_rfl) rfl) rfl (fun i _ => rfl) (EI wR W.heap.size) (fun cd i V => cd = .exit 4 ∧ t = 1 ∧ EI wR W.heap.size (i + 1) V)
            (fun i V V' row h hg hr => h.row hg (fun r e => by have := hr r e; have := zR.out; omega))
            (fun cd i V V' h hg => ⟨h.1, h.2.1, h.2.2.row hg (fun r e => by cases e; have := zR.out; omega)⟩)
            (fun i V h => by
              have bV : Below w8.heap.size w8 V := bR.trans (h.upd.below (by have := zR.out; omega) (fun q e => by omega))
              refine ⟨fun j d hd => ?_, (bV.cell (p := ⟨k, 0, none⟩) hkr).trans HC.out.2.2.2⟩
              obtain ⟨f0, f1⟩ := HL.out j d hd
              exact ⟨(bV.cell (p := ⟨g, 0 + j * 2, none⟩) hgr).trans f0, (bV.cell (p := ⟨g, 0 + j * 2 + 1, none⟩) hgr).trans f1⟩)
            eR ?round ?done ?stop
          case round =>
            intro i V hi ei hlt
            have hne : D ≠ [] := by rintro rfl; simp at hi
            obtain ⟨q, o, rfl, hq, lq⟩ := HS.out.place hne
            obtain ⟨x, hx⟩ : ∃ x, D[i]? = some x := ⟨_, List.getElem?_eq_getElem hi⟩
            have hge : D.getD i (0, ByteArray.empty) = x := by simp [List.getD, hx]
            simp only [encC, hge]
            have HEI := hide ei
            clear ei hge
            gi_wp2
            refine ⟨⟨HEI.out, fun _ _ => trivial⟩, ?_⟩
            intro V2 ei hg2 hrr
            have hzR := zR.out
            have bV : Below w8.heap.size w8 V2 := bR.trans (ei.upd.below (by omega) (fun q e => by omega))
            have m2 := (bV.cell (p := ⟨w.heap.size, 0, none⟩) (by show w.heap.size < _; omega)).trans HC.out.1
            have m3 := (bV.cell (p := ⟨w.heap.size + 1, 0, none⟩) (by show w.heap.size + 1 < _; omega)).trans HC.out.2.1
            have m6 := (bV.cell (p := ⟨w3.heap.size, 0, none⟩) hm).trans HC.out.2.2.1
            have mn := ei.cell
            have mf := ei.fz
            have mt := (ei.upd.cell (p := ⟨pt, 0, none⟩) (by show pt < _; omega) (by show pt ≠ _; omega)).trans HTR.out.1
            obtain ⟨l0, l1⟩ := lq i x hx
            have l0 := (bV.cell (p := ⟨q, o + i * 2, none⟩) hq).trans l0
            have l1 := (bV.cell (p := ⟨q, o + i * 2 + 1, none⟩) hq).trans l1
            have nq := neq_cl x
            have hsz := ei.upd.size
            have HE2 := hide ei
            have HR2 := hide hrr
            have HG2 := hide hg2
            have HBV := hide bV
            have hnl : decide ((D.length : Int) ≤ (i : Int)) = false := by simp; omega
            clear ei hrr hg2 bV HEI hx lq
            have kv6 : w3.heap.size < V2.heap.size := by omega
            have kv2 : w.heap.size < V2.heap.size := by omega
            have kv3 : w.heap.size + 1 < V2.heap.size := by omega
            have kvt : pt < V2.heap.size := by omega
            have kvn : W.heap.size < V2.heap.size := by omega
            have hne2 := hide (show ∀ v, ∀ k, (k = wR.heap.size ∨ k = wR.heap.size + 1) → (V2.setCell ⟨W.heap.size, 0, none⟩ v).heap[k]? = V2.heap[k]? from fun v k hk => Below.heap_setCell _ _ _ _ (by show k ≠ W.heap.size; omega))
            gi_wp2
            all_goals first
              | exact ⟨hne2.out _, rfl, by omega, HE2.out.set (by omega)⟩
              | exact ⟨hne2.out _, HE2.out.set (by omega)⟩
              | skip
            obtain ⟨V3, hV3⟩ : ∃ V3, (V2.setCell ⟨W.heap.size, 0, none⟩ (Value.int .i64 2)).alloc (Obj.cells #[Value.int .i64 0] 3) = V3 := ⟨_, rfl⟩
            rw [hV3]
            have z3 := hide (show V3.heap.size = V2.heap.size + 1 by rw [← hV3]; simp)
            have eM : EI V3 V2.heap.size 0 V3 := by
              rw [← hV3]
              have := EI.new (V2.setCell ⟨W.heap.size, 0, none⟩ (Value.int .i64 2)) 3
              simpa using this
            have eN : EI wR W.heap.size (i + 1) V3 := by
              rw [← hV3]
              exact (HE2.out.set (by omega)).row (World.grownBy_alloc _ _ none) (fun r e => by cases e)
            have kb : ∀ q, (q = wR.heap.size ∨ q = wR.heap.size + 1) → q < V2.heap.size → V3.heap[q]? = V2.heap[q]? := fun q hq hl => by
              rw [← hV3, Below.heap_alloc _ _ _ (by simpa using hl)]
              exact hne2.out _ q hq
            obtain ⟨rr, hrr⟩ := HR2.out
            have hrl := (Array.getElem?_eq_some_iff.1 hrr).1
            have hl0 := (kb _ (.inr rfl) hrl).trans hrr
            have bV3 : Below w8.heap.size w8 V3 := bR.trans (eN.upd.below (by omega) (fun q e => by omega))
            have HN := hide eN
            have HKB := hide kb
            clear hV3 eN kb m2 m3 m6 mn mf mt l0 l1 hrr
            refine over_itN (n := 4) hl0 (by omega) (each2_in 3 (by omega) k g D hdl.out) (enters_of Try.func12 (by kernel_rfl) rfl) rfl (fun i _ => rfl) (EI V3 V2.heap.size) (fun _ _ _ => False)
              (fun i V V' row h hg hr => h.row hg (fun r e => by have := hr r e; have := z3.out; omega))
              (fun cd i V V' h hg => h)
              (fun i V h => by
                have bV : Below w8.heap.size w8 V := bV3.trans (h.upd.below (by have := z3.out; omega) (fun q e => by omega))
                refine ⟨fun j d hd => ?_, (bV.cell (p := ⟨k, 0, none⟩) hkr).trans HC.out.2.2.2⟩
                obtain ⟨f0, f1⟩ := HL.out j d hd
                exact ⟨(bV.cell (p := ⟨g, 0 + j * 2, none⟩) hgr).trans f0, (bV.cell (p := ⟨g, 0 + j * 2 + 1, none⟩) hgr).trans f1⟩)
              eM ?round2 ?done2 ?stop2
            case round2 =>
              intro j U hj ej hlt2
              obtain ⟨y, hy⟩ : ∃ y, D[j]? = some y := ⟨_, List.getElem?_eq_getElem hj⟩
              have hge : D.getD j (0, ByteArray.empty) = y := by simp [List.getD, hy]
              simp only [encC, hge]
              have HEJ := hide ej
              clear ej hge
              gi_wp2
              refine ⟨⟨HEJ.out, ?_⟩, ?_⟩
              · first | exact trivial | exact fun _ _ => trivial
              intro U2 ej hg3 hrr3
              have hz3 := z3.out
              have bU : Below w8.heap.size w8 U2 := bV3.trans (ej.upd.below (by omega) (fun q e => by omega))
              have m2 := (bU.cell (p := ⟨w.heap.size, 0, none⟩) (by show w.heap.size < _; omega)).trans HC.out.1
              have mn := ej.cell
              have mf := ej.fz
              obtain ⟨l0, l1⟩ := (HS.out.place hne).elim fun q' h => h.elim fun o' h => by
                obtain ⟨e, _, lq⟩ := h
                cases e
                exact lq j y hy
              have l0 := (bU.cell (p := ⟨q, o + j * 2, none⟩) hq).trans l0
              have l1 := (bU.cell (p := ⟨q, o + j * 2 + 1, none⟩) hq).trans l1
              have ny := neq_cl y
              have hsz2 := ej.upd.size
              have HEJ2 := hide ej
              have hnl2 : decide ((D.length : Int) ≤ (j : Int)) = false := by simp; omega
              have ku2 : w.heap.size < U2.heap.size := by omega
              have kum : V2.heap.size < U2.heap.size := by omega
              clear ej hg3 hrr3 bU hy
              gi_wp2
              exact ⟨fun q hq => Below.heap_setCell _ _ _ _ (by show q ≠ V2.heap.size; omega), HEJ2.out.set (by omega)⟩
            case done2 =>
              intro U eU
              have hz3 := z3.out
              have bU : Below w8.heap.size w8 U := bV3.trans (eU.upd.below (by omega) (fun q e => by omega))
              have m2 := (bU.cell (p := ⟨w.heap.size, 0, none⟩) (by show w.heap.size < _; omega)).trans HC.out.1
              have mn := eU.cell
              have HEU := hide eU
              clear eU bU
              gi_wp2
              exact ⟨fun q hq => (HEU.out.upd.block q (by omega) (by omega)).trans (HKB.out q hq (by omega)), HN.out.on HEU.out.upd (by omega) (by omega)⟩
            case stop2 => exact fun _ _ _ _ h => h.elim
          case done =>
            intro V ei hK
            have hzR := zR.out
            have bV : Below w8.heap.size w8 V := bR.trans (ei.upd.below (by omega) (fun q e => by omega))
            have m2 := (bV.cell (p := ⟨w.heap.size, 0, none⟩) (by show w.heap.size < _; omega)).trans HC.out.1
            have mn := ei.cell
            have mt := (ei.upd.cell (p := ⟨pt, 0, none⟩) (by show pt < _; omega) (by show pt ≠ _; omega)).trans HTR.out.1
            have mtf := (ei.upd.frozen (p := ⟨pt, 0, none⟩) (by show pt < _; omega) (by show pt ≠ _; omega)).trans HTR.out.2
            have hsz := ei.upd.size
            have HEV := hide ei
            have HBV := hide bV
            have HKV := hide hK
            have kv2 : w.heap.size < V.heap.size := by omega
            have kvt : pt < V.heap.size := by omega
            have kvn : W.heap.size < V.heap.size := by omega
            clear ei bV hK hzR
            gi_wp2
            all_goals have hzR := zR.out
            all_goals
              refine HK.out _ _ ⟨t + 1, V.heap.size, wR.heap.size :: rs, { target := .collected wR.heap.size, args := #[] } :: ds, ?_⟩ ?_
              · rw [hzR]
                (repeat apply Exists.intro)
                refine ⟨⟨by omega, by omega, by go_simp, by go_simp, HBV.out.alloc (by omega) _, ?_, ?_⟩, rfl⟩
                · have hin : ∀ r, r ∈ rs → r < W.heap.size := fun r hr => (Array.getElem?_eq_some_iff.1 (HTI.out.marks.at r hr)).1
                  refine Marks.cons (HTI.out.marks.on (fun r hr e => ?_)) ?_ (fun h => by have := hin _ h; omega)
                  · have hl := hin r hr
                    rw [Below.heap_alloc _ _ _ (by omega), HEV.out.upd.block r (by omega) (by omega), bWR.block r hl]
                    exact e
                  · rw [Below.heap_alloc _ _ _ (by have := (Array.getElem?_eq_some_iff.1 HKV.out).1; omega), ← hzR]
                    exact HKV.out
                · intro r hr
                  rcases List.mem_cons.1 hr with rfl | hr
                  · omega
                  · exact HTI.out.low r hr
              · simp [tmeas, intOf, HTI.out.cell]
                omega
          case stop =>
            rintro cd i V hi ⟨rfl, h1, ei⟩ hK
            have hzR := zR.out
            have bV : Below w8.heap.size w8 V := bR.trans (ei.upd.below (by omega) (fun q e => by omega))
            have m2 := (bV.cell (p := ⟨w.heap.size, 0, none⟩) (by show w.heap.size < _; omega)).trans HC.out.1
            have mn := ei.cell
            have mt := (ei.upd.cell (p := ⟨pt, 0, none⟩) (by show pt < _; omega) (by show pt ≠ _; omega)).trans HTR.out.1
            have mtf := (ei.upd.frozen (p := ⟨pt, 0, none⟩) (by show pt < _; omega) (by show pt ≠ _; omega)).trans HTR.out.2
            have hsz := ei.upd.size
            have HEV := hide ei
            have HBV := hide bV
            have HKV := hide hK
            have kv2 : w.heap.size < V.heap.size := by omega
            have kvt : pt < V.heap.size := by omega
            have kvn : W.heap.size < V.heap.size := by omega
            clear ei bV hK hzR
            gi_wp2
            all_goals have hzR := zR.out
            all_goals
              refine HK.out _ _ ⟨t + 1, V.heap.size, wR.heap.size :: rs, { target := .collected wR.heap.size, args := #[] } :: ds, ?_⟩ ?_
              · rw [hzR]
                (repeat apply Exists.intro)
                refine ⟨⟨by omega, by omega, by go_simp, by go_simp, HBV.out.alloc (by omega) _, ?_, ?_⟩, rfl⟩
                · have hin : ∀ r, r ∈ rs → r < W.heap.size := fun r hr => (Array.getElem?_eq_some_iff.1 (HTI.out.marks.at r hr)).1
                  refine Marks.cons (HTI.out.marks.on (fun r hr e => ?_)) ?_ (fun h => by have := hin _ h; omega)
                  · have hl := hin r hr
                    rw [Below.heap_alloc _ _ _ (by omega), HEV.out.upd.block r (by omega) (by omega), bWR.block r hl]
                    exact e
                  · rw [Below.heap_alloc _ _ _ (by have := (Array.getElem?_eq_some_iff.1 HKV.out).1; omega), ← hzR]
                    exact HKV.out
                · intro r hr
                  rcases List.mem_cons.1 hr with rfl | hr
                  · omega
                  · exact HTI.out.low r hr
              · simp [tmeas, intOf, HTI.out.cell]
                omega
        · have hti := HTI.out.le
          have ht3 : decide ((t : Int) < 3) = false := by simp; omega
          gi_wp2
          go_wp2_with fail
          refine (works_any W).mono ?_
          rintro e w9 ⟨rfl, b9⟩
          have e4 := (b9.cell (p := ⟨w.heap.size + 1 + 1, 0, none⟩) (by show w.heap.size + 1 + 1 < _; omega)).trans e4
          have h4 := (b9.frozen (p := ⟨w.heap.size + 1 + 1, 0, none⟩) (by show w.heap.size + 1 + 1 < _; omega)).trans h4
          have HB9 := hide b9
          have hz9 := b9.size
          clear b9
          go_wp2
          have hin : ∀ r, r ∈ rs → r < W.heap.size := fun r hr => (Array.getElem?_eq_some_iff.1 (HTI.out.marks.at r hr)).1
          refine Marks.leave (rs := rs) (HTI.out.marks.on (fun r hr e => ?_)) (fun w' hu => ?_)
          · have hl := hin r hr
            have hw := HTI.out.low r hr
            rw [Below.heap_setCell _ _ _ _ (by show r ≠ w.heap.size + 1 + 1; omega), HB9.out.block r hl]
            exact e
          · have hc5 : w'.cell? ⟨w.heap.size + 1 + 1, 0, none⟩ = some (.bool true) := (hu.cell (p := ⟨w.heap.size + 1 + 1, 0, none⟩) (by simp; omega) (fun h => by have := HTI.out.low _ h; dsimp only at this; omega)).trans (setc_eq e4)
            refine ⟨.bool true, ?_, rfl, ?_⟩
            · simp [results, Try.f3, go_sem, hc5]
            · have hb0 : Below w.heap.size w w9 := (HB.out.trans (HTI.out.bel.mono (by omega))).trans (HB9.out.mono (by omega))
              exact (hb0.setCell (by show w.heap.size ≤ w.heap.size + 1 + 1; omega) _).trans (hu.below (by simp; omega) (fun r hr => by have := HTI.out.low r hr; omega))
theorem each4_came (a0 : Option Addr) (len0 cap0 : Nat) (a1 : Int) (W : World) (h0 : CameC W a0 len0 cap0) (hs : (Lit.int .i64 a1).wf = true) :
    Calls Try.prog 3 #[.slice a0 len0 cap0, .int .i64 a1] W fun e w' => e = .returned (.bool true) ∧ Below W.heap.size W w' := by
  obtain ⟨D, rfl, hD, hDw, hDl⟩ := h0
  exact each4_walk D a0 cap0 a1 W hD hDw hDl hs

end Go.Proofs.Ytolnkoneilipeaa
