import Derived.Test.YtilngncjbikkgaaGkf
namespace Go.Proofs.Ytilngncjbikkgaa
open Go.RowKit
set_option linter.unusedVariables false
set_option linter.unusedSimpArgs false

section
variable {w : World} {B g pg mg n cp cm : Nat} {vt : Value} {k R : Int} {rd : Nat → Int} {md : Nat → Nat} {v : Nat → Value} {s : Nat → Int} {L : List (Int × Int × Int)}
/-- What was told, behind a draw. -/
def tL (E : Int) (L : List (Int × Int × Int)) (x : Int × Int × Int) : List (Int × Int × Int) := if E = 0 then L ++ [x] else L
theorem tL_ok (L : List (Int × Int × Int)) (x : Int × Int × Int) : tL 0 L x = L ++ [x] := if_pos rfl
theorem tL_no {E : Int} (h : E ≠ 0) (L : List (Int × Int × Int)) (x : Int × Int × Int) : tL E L x = L := if_neg h
theorem rgb_lt (h : RG w B g pg mg n cp cm vt k R rd md v s L) {b : Nat} (hb : rgb g pg mg n vt v b) : b < w.heap.size := by
  rcases hb with rfl | rfl | rfl | hb | ⟨j, hj, hb⟩
  · exact h.gl.1
  · exact h.gl.2.1
  · exact h.gl.2.2
  · exact (h.T.lt b hb).2
  · exact (World.ownsRow.lt (h.O j hj).1 b hb).2
theorem rgdraw_bad (i : Int) (h : RG w B g pg mg n cp cm vt k R rd md v s L) (hk : ¬ (0 ≤ i ∧ i < (n : Int))) :
    Calls Try.prog 22 #[.pointer (some ⟨g, 0, none⟩), .int .i64 i] w fun e w' => e = .returned (.tuple #[.agg #[.int .u64 0, .int .u64 0], .int .i64 3]) ∧ Below w.heap.size w w' := by
  have c2 := h.c2
  have hcp := h.cap.1
  have h7 := h.n7
  have lt := h.gl.1
  clear h
  by_cases h1 : i < 0
  · have d1 : decide (i < 0) = true := decide_eq_true h1
    go_enter Try.func22, Try.ntmps22
    go_wp2
    refine bodyPost_ret (v := .tuple #[.agg #[.int .u64 0, .int .u64 0], .int .i64 3]) (by simp [results, Try.results22, go_sem]) rfl ⟨rfl, ?_⟩
    exact (Below.refl _ _).alloc (Nat.le_refl _) _
  · have d1 : decide (i < 0) = false := decide_eq_false h1
    have d2 : decide ((n : Int) ≤ i) = true := decide_eq_true (by omega)
    have c2' : ∀ o, (w.alloc o).cell? ⟨g, 2, none⟩ = some (.slice (some ⟨pg, 0, none⟩) n cp) := fun o => (World.cell?_alloc_past _ _ _ lt).trans c2
    go_enter Try.func22, Try.ntmps22
    go_wp2
    refine bodyPost_ret (v := .tuple #[.agg #[.int .u64 0, .int .u64 0], .int .i64 3]) (by simp [results, Try.results22, go_sem]) rfl ⟨rfl, ?_⟩
    exact (Below.refl _ _).alloc (Nat.le_refl _) _
set_option maxRecDepth 100000 in
set_option maxHeartbeats 2000000 in
theorem rgdraw_mixed (j : Nat) (h : RG w B g pg mg n cp cm vt 2 R rd md v s L) (hj : j < n) (hb : (L.length + 1) * 24 ≤ 140737488355328) :
    Calls Try.prog 22 #[.pointer (some ⟨g, 0, none⟩), .int .i64 (j : Int)] w fun e w' => e = .returned (.tuple #[.agg #[.int .u64 (wordOf (stp (s j))), .int .u64 (wordOf (stp (stp (s j))))], .int .i64 0]) ∧ ∃ vt' v', RG w' B g pg mg n cp cm vt' 2 R rd md v' (fun i => if i = j then stp (stp (s j)) else s i) (L ++ [((j : Int), wordOf (stp (s j)), wordOf (stp (stp (s j))))]) ∧ (∀ b, rgb g pg mg n vt' v' b → rgb g pg mg n vt v b ∨ w.heap.size ≤ b) ∧ Upd (rgb g pg mg n vt v) w w' := by
  have U0 : ∀ o o', Upd (fun _ => False) w ((w.alloc o).alloc o') := fun o o' => ((Upd.refl _ w).alloc o).alloc o'
  have c0 := h.c0
  have c2 := h.c2
  have c3 := h.c3
  have hcp := h.cap.1
  have hcm := h.cap.2
  have h7 := h.n7
  have lt := h.gl.1
  have hgB := h.gB
  have hBw := h.hB
  have c2' : ∀ o, (w.alloc o).cell? ⟨g, 2, none⟩ = some (.slice (some ⟨pg, 0, none⟩) n cp) := fun o => (World.cell?_alloc_past _ _ _ lt).trans c2
  have c0'' : ∀ o o', ((w.alloc o).alloc o').cell? ⟨g, 0, none⟩ = some (.int .i64 2) := fun o o' => (U0 o o').cell (p := ⟨g, 0, none⟩) lt id |>.trans c0
  have c2'' : ∀ o o', ((w.alloc o).alloc o').cell? ⟨g, 2, none⟩ = some (.slice (some ⟨pg, 0, none⟩) n cp) := fun o o' => (U0 o o').cell (p := ⟨g, 2, none⟩) lt id |>.trans c2
  have c3'' : ∀ o o', ((w.alloc o).alloc o').cell? ⟨g, 3, none⟩ = some (.slice (some ⟨mg, 0, none⟩) n cm) := fun o o' => (U0 o o').cell (p := ⟨g, 3, none⟩) lt id |>.trans c3
  have d1 : decide ((j : Int) < 0) = false := decide_eq_false (by omega)
  have d2 : decide ((n : Int) ≤ (j : Int)) = false := decide_eq_false (by omega)
  have hA := fun o o' => h.upd (U0 o o') (fun _ _ => id)
  have LTB := hide (fun b (hb : rgb g pg mg n vt v b) => rgb_lt h hb)
  have HA := hide hA
  have H := hide h
  clear hA h
  go_enter Try.func22, Try.ntmps22
  go_wp2_with fail
  refine (qmdraw_any mg j _ _ (s j) _ ((HA.out _ _).mixed hj)).mono ?_
  rintro e w1 ⟨rfl, q, u1⟩
  have RN := (HA.out (.cells #[.int .u64 0, .int .u64 0] 58) (.cells #[.int .u64 0, .int .u64 0] 58)).putM hj q u1
  have hu1 : ∀ b, b = mg → rgb g pg mg n vt v b := fun b hb => .inr (.inr (.inl hb))
  have RB : Hid (∀ b, rgb g pg mg n vt v b → rgb g pg mg n vt v b ∨ w.heap.size + 2 ≤ b) := fun b hb => .inl hb
  obtain ⟨v9, hv9⟩ : ∃ v9, v9 = v := ⟨_, rfl⟩
  rw [← hv9] at RN
  clear q
  have RB : Hid (∀ b, rgb g pg mg n vt v9 b → rgb g pg mg n vt v b ∨ w.heap.size + 2 ≤ b) := by rw [hv9]; exact RB
  clear hv9
  generalize hX : wordOf (stp (s j)) = X at *
  generalize hY : wordOf (stp (stp (s j))) = Y at *
  generalize hS9 : (fun i => if i = j then stp (stp (s j)) else s i) = s9 at *
  have HX := hide (And.intro hX (And.intro hY hS9))
  clear hX hY hS9
  have LT9 := hide (fun b (hb : rgb g pg mg n vt v9 b) => rgb_lt RN hb)
  have nr : ∀ b, rgb g pg mg n vt v b → b ≠ w.heap.size ∧ b ≠ w.heap.size + 1 := fun b hb => by have := LTB.out b hb; omega
  have nr9 : ∀ b, rgb g pg mg n vt v9 b → b ≠ w.heap.size ∧ b ≠ w.heap.size + 1 := fun b hb => by
    rcases RB.out b hb with h | h
    · exact nr b h
    · omega
  have z1 := u1.size
  simp only [World.size_alloc] at z1
  have nu0 : ∀ i, ¬ (fun b => b = mg) (w.heap.size + i) := fun i e => by have := LTB.out _ (hu1 _ e); omega
  have D0 : Dr w1 w.heap.size 0 0 := ((Dr.new w 0 0 58).upd (S := fun _ => False) ((Upd.refl _ _).alloc _) id).upd u1 (nu0 0)
  have D1 : Dr w1 (w.heap.size + 1) 0 0 := by
    have := (Dr.new (w.alloc (.cells #[.int .u64 0, .int .u64 0] 58)) 0 0 58)
    rw [World.size_alloc] at this
    exact this.upd u1 (nu0 1)
  have fa : ∀ i, i < 2 → w1.frozen? ⟨w.heap.size, i, none⟩ = false := fun i hi => (u1.frozen (p := ⟨w.heap.size, i, none⟩) (by simp; omega) (nu0 0)).trans (by
    have : i = 0 ∨ i = 1 := by omega
    rcases this with rfl | rfl <;> simp)
  have fb : ∀ i, i < 2 → w1.frozen? ⟨w.heap.size + 1, i, none⟩ = false := fun i hi => (u1.frozen (p := ⟨w.heap.size + 1, i, none⟩) (by simp) (nu0 1)).trans (by
    have h2 : (w.alloc (.cells #[.int .u64 0, .int .u64 0] 58)).heap.size = w.heap.size + 1 := World.size_alloc _ _
    have : i = 0 ∨ i = 1 := by omega
    rw [← h2]
    rcases this with rfl | rfl <;> simp)
  have fa0 := fa 0 (by omega)
  have fa1 := fa 1 (by omega)
  have fb0 := fb 0 (by omega)
  have fb1 := fb 1 (by omega)
  obtain ⟨la, a0, a1⟩ := D0
  obtain ⟨lb, b0, b1⟩ := D1
  have U1 : Hid (Upd (rgb g pg mg n vt v) w w1) := hide (((U0 _ _).mono (fun _ _ h => h.elim)).trans (u1.mono (fun b _ hb => hu1 b hb)))
  have HRN := hide RN
  have HB1 := hide hBw
  clear RN u1 hu1 nu0 fa fb HA c0'' c2'' c3'' c2' c0 c2 c3 U0 d1 d2
  have ne1 : ¬ w.heap.size + 1 = w.heap.size := by omega
  have ne2 : ¬ w.heap.size = w.heap.size + 1 := by omega
  go_wp2
  obtain ⟨w2, hw2⟩ : ∃ w2, (w1.setCell ⟨w.heap.size + 1, 0, none⟩ (.int .u64 X)).setCell ⟨w.heap.size + 1, 1, none⟩ (.int .u64 Y) = w2 := ⟨_, rfl⟩
  rw [hw2]
  have us : Upd (· = w.heap.size + 1) w1 w2 := by rw [← hw2]; exact (upd_one' _ _ _ _).trans (upd_one' _ _ _ _)
  have z2 := us.size
  have b0 : w2.cell? ⟨w.heap.size + 1, 0, none⟩ = some (.int .u64 X) := by rw [← hw2]; exact sc_ne (sc_eq b0) (by omega)
  have b1 : w2.cell? ⟨w.heap.size + 1, 1, none⟩ = some (.int .u64 Y) := by rw [← hw2]; exact sc_eq (sc_ne b1 (by omega))
  have a0 := (us.cell (p := ⟨w.heap.size, 0, none⟩) la ne2).trans a0
  have a1 := (us.cell (p := ⟨w.heap.size, 1, none⟩) la ne2).trans a1
  have fa0 := (us.frozen (p := ⟨w.heap.size, 0, none⟩) la ne2).trans fa0
  have fa1 := (us.frozen (p := ⟨w.heap.size, 1, none⟩) la ne2).trans fa1
  have R2 := HRN.out.upd us (fun b hb => (nr9 b hb).2)
  have HR2 := hide R2
  have U2 : Hid (Upd (rgb g pg mg n vt v) w w2) := hide ⟨us.os.trans U1.out.os, us.tape.trans U1.out.tape, us.output.trans U1.out.output, by have := U1.out.size; have := us.size; omega, fun b hb hs => (us.block b (by have := U1.out.size; omega) (by omega)).trans (U1.out.block b hb hs)⟩
  have gc4 := R2.c4
  have gf4 := R2.f4
  have lg2 := R2.gl.1
  have o2 := R2.T
  clear R2 hw2
  have gc4' : ∀ o, (w2.alloc o).cell? ⟨g, 4, none⟩ = some vt := fun o => (World.cell?_alloc_past _ _ _ lg2).trans gc4
  have o3 := o2.upd (S := fun _ => False) (Upd.refl _ w2).drew (fun _ _ => id)
  have lo2 : w.heap.size + 1 < w2.heap.size := by omega
  have b0' : ∀ o, (w2.alloc o).cell? ⟨w.heap.size + 1, 0, none⟩ = some (.int .u64 X) := fun o => (World.cell?_alloc_past _ _ _ lo2).trans b0
  have b1' : ∀ o, (w2.alloc o).cell? ⟨w.heap.size + 1, 1, none⟩ = some (.int .u64 Y) := fun o => (World.cell?_alloc_past _ _ _ lo2).trans b1
  have NV : Hid (∀ b, vt.ownBlock = some b → b ≠ g ∧ b ≠ w.heap.size ∧ b ≠ w.heap.size + 1) := fun b hb => ⟨fun e => by have := (o2.lt b hb).1; omega, nr b (.inr (.inr (.inr (.inl hb))))⟩
  have hz3 := hide (show B ≤ w2.heap.size by have := HB1.out; omega)
  go_region_law (refine step_stamp rfl (.tmp 54) (.tmp 58) rfl B L vt rfl ⟨w2.heap.size, 0, none⟩ rfl (j : Int) X Y (Tri0 w2.drew _ _ _ _) (Tri1 w2.drew _ _ _ _) (Tri2 w2.drew _ _ _ _) (o3.alloc _) (by have := hz3.out; simp; omega) hb ?_; intro v3 w3 o4 g4 s4; have u3 := stamp_upd g4; obtain ⟨va, vc, hv3, hvc1, hvc2, _, _⟩ := o4.form; subst hv3; have k1 := (u3.cell (p := ⟨g, 4, none⟩) lg2 (fun e => (NV.out _ e).1 rfl)).trans gc4; have k2 := (u3.frozen (p := ⟨g, 4, none⟩) lg2 (fun e => (NV.out _ e).1 rfl)).trans gf4)
  all_goals
    have x0 := (u3.cell (p := ⟨w.heap.size + 1, 0, none⟩) lo2 (fun e => (NV.out _ e).2.2 rfl)).trans b0
    have x1 := (u3.cell (p := ⟨w.heap.size + 1, 1, none⟩) lo2 (fun e => (NV.out _ e).2.2 rfl)).trans b1
    have y0 := (u3.cell (p := ⟨w.heap.size, 0, none⟩) (by show w.heap.size < _; omega) (fun e => (NV.out _ e).2.1 rfl)).trans a0
    have y1 := (u3.cell (p := ⟨w.heap.size, 1, none⟩) (by show w.heap.size < _; omega) (fun e => (NV.out _ e).2.1 rfl)).trans a1
    have q0 := (u3.frozen (p := ⟨w.heap.size, 0, none⟩) (by show w.heap.size < _; omega) (fun e => (NV.out _ e).2.1 rfl)).trans fa0
    have q1 := (u3.frozen (p := ⟨w.heap.size, 1, none⟩) (by show w.heap.size < _; omega) (fun e => (NV.out _ e).2.1 rfl)).trans fa1
    have ga : ¬ w.heap.size + 1 = g := by omega
    have gb : ¬ w.heap.size = g := by omega
    have z3 := u3.size
    have s4' : (Value.slice va (L ++ [((j : Int), X, Y)]).length vc).ownBlock = vt.ownBlock ∨ ∃ b, (Value.slice va (L ++ [((j : Int), X, Y)]).length vc).ownBlock = some b ∧ w2.heap.size ≤ b := s4.imp id (fun e => ⟨_, e, by simp⟩)
    have RF := hide (HR2.out.putT o4 u3 s4')
    have BF : Hid (∀ b, rgb g pg mg n (Value.slice va (L ++ [((j : Int), X, Y)]).length vc) v9 b → rgb g pg mg n vt v b ∨ w.heap.size + 2 ≤ b) := by
      rintro b (hb | hb | hb | hb | hb)
      · exact .inl (.inl hb)
      · exact .inl (.inr (.inl hb))
      · exact .inl (.inr (.inr (.inl hb)))
      · rcases s4' with e | ⟨b', e, he⟩
        · exact .inl (.inr (.inr (.inr (.inl (e ▸ hb)))))
        · rw [e] at hb; cases hb; exact .inr (by omega)
      · exact RB.out b (.inr (.inr (.inr (.inr hb))))
    have UF : Hid (Upd (rgb g pg mg n vt v) w (w3.setCell ⟨g, 4, none⟩ (Value.slice va (L ++ [((j : Int), X, Y)]).length vc))) := hide (Upd.setCell (p := ⟨g, 4, none⟩) (U2.out.trans (u3.mono (fun b _ hb => .inr (.inr (.inr (.inl hb)))))) (.inl (.inl rfl)) _)
    have hln : (L ++ [((j : Int), X, Y)]).length = L.length + 1 := by simp
    rw [hln] at RF BF UF
    clear u3 s4 s4' g4 o4 hvc1 hvc2 hln
    go_wp2
    have ur : Upd (· = w.heap.size) (w3.setCell ⟨g, 4, none⟩ (Value.slice va (L.length + 1) vc)) (((w3.setCell ⟨g, 4, none⟩ (Value.slice va (L.length + 1) vc)).setCell ⟨w.heap.size, 0, none⟩ (.int .u64 X)).setCell ⟨w.heap.size, 1, none⟩ (.int .u64 Y)) := (upd_one' _ _ _ _).trans (upd_one' _ _ _ _)
    refine bodyPost_ret (v := .tuple #[.agg #[.int .u64 X, .int .u64 Y], .int .i64 0]) (by simp [results, Try.results22, go_sem, y0, y1]) rfl ⟨by rw [HX.out.1, HX.out.2.1], Value.slice va (L.length + 1) vc, v9, ?_, fun b hb => (BF.out b hb).imp id (fun e => by omega), ?_⟩
    · rw [HX.out.2.2, HX.out.1, HX.out.2.1]
      exact RF.out.upd ur (fun b hb e => by
        rcases BF.out b hb with h | h
        · exact (nr b h).1 e
        · omega)
    · exact (UF.out.setCell (p := ⟨w.heap.size, 0, none⟩) (.inr (Nat.le_refl _)) _).setCell (p := ⟨w.heap.size, 1, none⟩) (.inr (Nat.le_refl _)) _
set_option maxRecDepth 100000 in
set_option maxHeartbeats 2000000 in
theorem rgdraw_clock (j : Nat) (h : RG w B g pg mg n cp cm vt 1 R rd md v s L) (hj : j < n) (hb : (L.length + 1) * 24 ≤ 140737488355328) :
    Calls Try.prog 22 #[.pointer (some ⟨g, 0, none⟩), .int .i64 (j : Int)] w fun e w' => e = .returned (.tuple #[.agg #[.int .u64 (dH R (rd j) (md j)), .int .u64 (dL R (rd j) (md j))], .int .i64 (dE R (rd j) (md j))]) ∧ ∃ vt' v', RG w' B g pg mg n cp cm vt' 1 R (fun i => if i = j then dR R (rd j) (md j) else rd i) (fun i => if i = j then (dM R (rd j) (md j)).toNat else md i) v' s (tL (dE R (rd j) (md j)) L ((j : Int), dH R (rd j) (md j), dL R (rd j) (md j))) ∧ (∀ b, rgb g pg mg n vt' v' b → rgb g pg mg n vt v b ∨ w.heap.size ≤ b) ∧ Upd (rgb g pg mg n vt v) w w' := by
  have U0 : ∀ o o', Upd (fun _ => False) w ((w.alloc o).alloc o') := fun o o' => ((Upd.refl _ w).alloc o).alloc o'
  have c0 := h.c0
  have c2 := h.c2
  have c3 := h.c3
  have hcp := h.cap.1
  have hcm := h.cap.2
  have h7 := h.n7
  have lt := h.gl.1
  have hgB := h.gB
  have hBw := h.hB
  have c2' : ∀ o, (w.alloc o).cell? ⟨g, 2, none⟩ = some (.slice (some ⟨pg, 0, none⟩) n cp) := fun o => (World.cell?_alloc_past _ _ _ lt).trans c2
  have c0'' : ∀ o o', ((w.alloc o).alloc o').cell? ⟨g, 0, none⟩ = some (.int .i64 1) := fun o o' => (U0 o o').cell (p := ⟨g, 0, none⟩) lt id |>.trans c0
  have c2'' : ∀ o o', ((w.alloc o).alloc o').cell? ⟨g, 2, none⟩ = some (.slice (some ⟨pg, 0, none⟩) n cp) := fun o o' => (U0 o o').cell (p := ⟨g, 2, none⟩) lt id |>.trans c2
  have c3'' : ∀ o o', ((w.alloc o).alloc o').cell? ⟨g, 3, none⟩ = some (.slice (some ⟨mg, 0, none⟩) n cm) := fun o o' => (U0 o o').cell (p := ⟨g, 3, none⟩) lt id |>.trans c3
  have d1 : decide ((j : Int) < 0) = false := decide_eq_false (by omega)
  have d2 : decide ((n : Int) ≤ (j : Int)) = false := decide_eq_false (by omega)
  have hA := fun o o' => h.upd (U0 o o') (fun _ _ => id)
  have LTB := hide (fun b (hb : rgb g pg mg n vt v b) => rgb_lt h hb)
  have HA := hide hA
  have H := hide h
  clear hA h
  go_enter Try.func22, Try.ntmps22
  go_wp2_with fail
  refine (qdraw_any B pg (j * 2) g 1 _ _ R (rd j) (md j) (v j) _ ((HA.out _ _).pairs hj) (HA.out _ _).clk (by simp; omega)).mono ?_
  rintro e w1 ⟨rfl, v1, q, hv1, u1⟩
  have RN := (HA.out (.cells #[.int .u64 0, .int .u64 0] 58) (.cells #[.int .u64 0, .int .u64 0] 58)).putP hj q (by
    rcases hv1 with hv1 | ⟨b, hb1, hb2⟩
    · exact .inl hv1
    · exact .inr (.inr ⟨b, hb1, hb2⟩)) u1
  have hu1 : ∀ b, (b = pg ∨ (v j).ownBlock = some b) → rgb g pg mg n vt v b := fun b hb => by
    rcases hb with hb | hb
    · exact .inr (.inl hb)
    · exact .inr (.inr (.inr (.inr ⟨j, hj, hb⟩)))
  have RB : Hid (∀ b, rgb g pg mg n vt (fun i => if i = j then v1 else v i) b → rgb g pg mg n vt v b ∨ w.heap.size + 2 ≤ b) := by
    rintro b (hb | hb | hb | hb | ⟨i, hi, hb⟩)
    · exact .inl (.inl hb)
    · exact .inl (.inr (.inl hb))
    · exact .inl (.inr (.inr (.inl hb)))
    · exact .inl (.inr (.inr (.inr (.inl hb))))
    · by_cases e : i = j
      · simp only [if_pos e] at hb
        rcases hv1 with hv1 | ⟨b', hb1, hb2⟩
        · exact .inl (.inr (.inr (.inr (.inr ⟨j, hj, hv1 ▸ hb⟩))))
        · rw [hb1] at hb; cases hb; simp at hb2; exact .inr hb2
      · simp only [if_neg e] at hb
        exact .inl (.inr (.inr (.inr (.inr ⟨i, hi, hb⟩))))
  have VV : ∃ v9, v9 = fun i => if i = j then v1 else v i := ⟨_, rfl⟩
  obtain ⟨v9, hv9⟩ := VV
  rw [← hv9] at RN RB
  clear q hv1 hv9
  generalize hX : dH R (rd j) (md j) = X at *
  generalize hY : dL R (rd j) (md j) = Y at *
  generalize hE : dE R (rd j) (md j) = E at *
  generalize hR9 : (fun i => if i = j then dR R (rd j) (md j) else rd i) = rd9 at *
  generalize hM9 : (fun i => if i = j then (dM R (rd j) (md j)).toNat else md i) = md9 at *
  have HX := hide (And.intro hX (And.intro hY (And.intro hE (And.intro hR9 hM9))))
  clear hX hY hE hR9 hM9
  have LT9 := hide (fun b (hb : rgb g pg mg n vt v9 b) => rgb_lt RN hb)
  have nr : ∀ b, rgb g pg mg n vt v b → b ≠ w.heap.size ∧ b ≠ w.heap.size + 1 := fun b hb => by have := LTB.out b hb; omega
  have nr9 : ∀ b, rgb g pg mg n vt v9 b → b ≠ w.heap.size ∧ b ≠ w.heap.size + 1 := fun b hb => by
    rcases RB.out b hb with h | h
    · exact nr b h
    · omega
  have z1 := u1.size
  simp only [World.size_alloc] at z1
  have nu0 : ∀ i, ¬ (fun b => b = pg ∨ (v j).ownBlock = some b) (w.heap.size + i) := fun i e => by have := LTB.out _ (hu1 _ e); omega
  have D0 : Dr w1 w.heap.size 0 0 := ((Dr.new w 0 0 58).upd (S := fun _ => False) ((Upd.refl _ _).alloc _) id).upd u1 (nu0 0)
  have D1 : Dr w1 (w.heap.size + 1) 0 0 := by
    have := (Dr.new (w.alloc (.cells #[.int .u64 0, .int .u64 0] 58)) 0 0 58)
    rw [World.size_alloc] at this
    exact this.upd u1 (nu0 1)
  have fa : ∀ i, i < 2 → w1.frozen? ⟨w.heap.size, i, none⟩ = false := fun i hi => (u1.frozen (p := ⟨w.heap.size, i, none⟩) (by simp; omega) (nu0 0)).trans (by
    have : i = 0 ∨ i = 1 := by omega
    rcases this with rfl | rfl <;> simp)
  have fb : ∀ i, i < 2 → w1.frozen? ⟨w.heap.size + 1, i, none⟩ = false := fun i hi => (u1.frozen (p := ⟨w.heap.size + 1, i, none⟩) (by simp) (nu0 1)).trans (by
    have h2 : (w.alloc (.cells #[.int .u64 0, .int .u64 0] 58)).heap.size = w.heap.size + 1 := World.size_alloc _ _
    have : i = 0 ∨ i = 1 := by omega
    rw [← h2]
    rcases this with rfl | rfl <;> simp)
  have fa0 := fa 0 (by omega)
  have fa1 := fa 1 (by omega)
  have fb0 := fb 0 (by omega)
  have fb1 := fb 1 (by omega)
  obtain ⟨la, a0, a1⟩ := D0
  obtain ⟨lb, b0, b1⟩ := D1
  have U1 : Hid (Upd (rgb g pg mg n vt v) w w1) := hide (((U0 _ _).mono (fun _ _ h => h.elim)).trans (u1.mono (fun b _ hb => hu1 b hb)))
  have HRN := hide RN
  have HB1 := hide hBw
  clear RN u1 hu1 nu0 fa fb HA c0'' c2'' c3'' c2' c0 c2 c3 U0 d1 d2
  have ne1 : ¬ w.heap.size + 1 = w.heap.size := by omega
  have ne2 : ¬ w.heap.size = w.heap.size + 1 := by omega
  by_cases hE0 : E = 0
  · have hE1 : decide (E = 0) = true := decide_eq_true hE0
    subst hE0
    go_wp2
    obtain ⟨w2, hw2⟩ : ∃ w2, (w1.setCell ⟨w.heap.size + 1, 0, none⟩ (.int .u64 X)).setCell ⟨w.heap.size + 1, 1, none⟩ (.int .u64 Y) = w2 := ⟨_, rfl⟩
    rw [hw2]
    have us : Upd (· = w.heap.size + 1) w1 w2 := by rw [← hw2]; exact (upd_one' _ _ _ _).trans (upd_one' _ _ _ _)
    have z2 := us.size
    have b0 : w2.cell? ⟨w.heap.size + 1, 0, none⟩ = some (.int .u64 X) := by rw [← hw2]; exact sc_ne (sc_eq b0) (by omega)
    have b1 : w2.cell? ⟨w.heap.size + 1, 1, none⟩ = some (.int .u64 Y) := by rw [← hw2]; exact sc_eq (sc_ne b1 (by omega))
    have a0 := (us.cell (p := ⟨w.heap.size, 0, none⟩) la ne2).trans a0
    have a1 := (us.cell (p := ⟨w.heap.size, 1, none⟩) la ne2).trans a1
    have fa0 := (us.frozen (p := ⟨w.heap.size, 0, none⟩) la ne2).trans fa0
    have fa1 := (us.frozen (p := ⟨w.heap.size, 1, none⟩) la ne2).trans fa1
    have R2 := HRN.out.upd us (fun b hb => (nr9 b hb).2)
    have HR2 := hide R2
    have U2 : Hid (Upd (rgb g pg mg n vt v) w w2) := hide ⟨us.os.trans U1.out.os, us.tape.trans U1.out.tape, us.output.trans U1.out.output, by have := U1.out.size; have := us.size; omega, fun b hb hs => (us.block b (by have := U1.out.size; omega) (by omega)).trans (U1.out.block b hb hs)⟩
    have gc4 := R2.c4
    have gf4 := R2.f4
    have lg2 := R2.gl.1
    have o2 := R2.T
    clear R2 hw2
    have gc4' : ∀ o, (w2.alloc o).cell? ⟨g, 4, none⟩ = some vt := fun o => (World.cell?_alloc_past _ _ _ lg2).trans gc4
    have o3 := o2.upd (S := fun _ => False) (Upd.refl _ w2).drew (fun _ _ => id)
    have lo2 : w.heap.size + 1 < w2.heap.size := by omega
    have b0' : ∀ o, (w2.alloc o).cell? ⟨w.heap.size + 1, 0, none⟩ = some (.int .u64 X) := fun o => (World.cell?_alloc_past _ _ _ lo2).trans b0
    have b1' : ∀ o, (w2.alloc o).cell? ⟨w.heap.size + 1, 1, none⟩ = some (.int .u64 Y) := fun o => (World.cell?_alloc_past _ _ _ lo2).trans b1
    have NV : Hid (∀ b, vt.ownBlock = some b → b ≠ g ∧ b ≠ w.heap.size ∧ b ≠ w.heap.size + 1) := fun b hb => ⟨fun e => by have := (o2.lt b hb).1; omega, nr b (.inr (.inr (.inr (.inl hb))))⟩
    have hz3 := hide (show B ≤ w2.heap.size by have := HB1.out; omega)
    go_region_law (refine step_stamp rfl (.tmp 54) (.tmp 58) rfl B L vt rfl ⟨w2.heap.size, 0, none⟩ rfl (j : Int) X Y (Tri0 w2.drew _ _ _ _) (Tri1 w2.drew _ _ _ _) (Tri2 w2.drew _ _ _ _) (o3.alloc _) (by have := hz3.out; simp; omega) hb ?_; intro v3 w3 o4 g4 s4; have u3 := stamp_upd g4; obtain ⟨va, vc, hv3, hvc1, hvc2, _, _⟩ := o4.form; subst hv3; have k1 := (u3.cell (p := ⟨g, 4, none⟩) lg2 (fun e => (NV.out _ e).1 rfl)).trans gc4; have k2 := (u3.frozen (p := ⟨g, 4, none⟩) lg2 (fun e => (NV.out _ e).1 rfl)).trans gf4)
    all_goals
      have x0 := (u3.cell (p := ⟨w.heap.size + 1, 0, none⟩) lo2 (fun e => (NV.out _ e).2.2 rfl)).trans b0
      have x1 := (u3.cell (p := ⟨w.heap.size + 1, 1, none⟩) lo2 (fun e => (NV.out _ e).2.2 rfl)).trans b1
      have y0 := (u3.cell (p := ⟨w.heap.size, 0, none⟩) (by show w.heap.size < _; omega) (fun e => (NV.out _ e).2.1 rfl)).trans a0
      have y1 := (u3.cell (p := ⟨w.heap.size, 1, none⟩) (by show w.heap.size < _; omega) (fun e => (NV.out _ e).2.1 rfl)).trans a1
      have q0 := (u3.frozen (p := ⟨w.heap.size, 0, none⟩) (by show w.heap.size < _; omega) (fun e => (NV.out _ e).2.1 rfl)).trans fa0
      have q1 := (u3.frozen (p := ⟨w.heap.size, 1, none⟩) (by show w.heap.size < _; omega) (fun e => (NV.out _ e).2.1 rfl)).trans fa1
      have ga : ¬ w.heap.size + 1 = g := by omega
      have gb : ¬ w.heap.size = g := by omega
      have z3 := u3.size
      have s4' : (Value.slice va (L ++ [((j : Int), X, Y)]).length vc).ownBlock = vt.ownBlock ∨ ∃ b, (Value.slice va (L ++ [((j : Int), X, Y)]).length vc).ownBlock = some b ∧ w2.heap.size ≤ b := s4.imp id (fun e => ⟨_, e, by simp⟩)
      have RF := hide (HR2.out.putT o4 u3 s4')
      have BF : Hid (∀ b, rgb g pg mg n (Value.slice va (L ++ [((j : Int), X, Y)]).length vc) v9 b → rgb g pg mg n vt v b ∨ w.heap.size + 2 ≤ b) := by
        rintro b (hb | hb | hb | hb | hb)
        · exact .inl (.inl hb)
        · exact .inl (.inr (.inl hb))
        · exact .inl (.inr (.inr (.inl hb)))
        · rcases s4' with e | ⟨b', e, he⟩
          · exact .inl (.inr (.inr (.inr (.inl (e ▸ hb)))))
          · rw [e] at hb; cases hb; exact .inr (by omega)
        · exact RB.out b (.inr (.inr (.inr (.inr hb))))
      have UF : Hid (Upd (rgb g pg mg n vt v) w (w3.setCell ⟨g, 4, none⟩ (Value.slice va (L ++ [((j : Int), X, Y)]).length vc))) := hide (Upd.setCell (p := ⟨g, 4, none⟩) (U2.out.trans (u3.mono (fun b _ hb => .inr (.inr (.inr (.inl hb)))))) (.inl (.inl rfl)) _)
      have hln : (L ++ [((j : Int), X, Y)]).length = L.length + 1 := by simp
      rw [hln] at RF BF UF
      clear u3 s4 s4' g4 o4 hvc1 hvc2 hln
      go_wp2
      have ur : Upd (· = w.heap.size) (w3.setCell ⟨g, 4, none⟩ (Value.slice va (L.length + 1) vc)) (((w3.setCell ⟨g, 4, none⟩ (Value.slice va (L.length + 1) vc)).setCell ⟨w.heap.size, 0, none⟩ (.int .u64 X)).setCell ⟨w.heap.size, 1, none⟩ (.int .u64 Y)) := (upd_one' _ _ _ _).trans (upd_one' _ _ _ _)
      refine bodyPost_ret (v := .tuple #[.agg #[.int .u64 X, .int .u64 Y], .int .i64 0]) (by simp [results, Try.results22, go_sem, y0, y1]) rfl ⟨by rw [HX.out.1, HX.out.2.1, HX.out.2.2.1], Value.slice va (L.length + 1) vc, v9, ?_, fun b hb => (BF.out b hb).imp id (fun e => by omega), ?_⟩
      · rw [HX.out.2.2.2.1, HX.out.2.2.2.2, HX.out.2.2.1, HX.out.1, HX.out.2.1, tL_ok]
        exact RF.out.upd ur (fun b hb e => by
          rcases BF.out b hb with h | h
          · exact (nr b h).1 e
          · omega)
      · exact (UF.out.setCell (p := ⟨w.heap.size, 0, none⟩) (.inr (Nat.le_refl _)) _).setCell (p := ⟨w.heap.size, 1, none⟩) (.inr (Nat.le_refl _)) _
  · have hE1 : decide (E = 0) = false := decide_eq_false hE0
    have hE2 : (E == 0) = false := by simp [hE0]
    go_wp2
    obtain ⟨w2, hw2⟩ : ∃ w2, (w1.setCell ⟨w.heap.size + 1, 0, none⟩ (.int .u64 X)).setCell ⟨w.heap.size + 1, 1, none⟩ (.int .u64 Y) = w2 := ⟨_, rfl⟩
    rw [hw2]
    have us : Upd (· = w.heap.size + 1) w1 w2 := by rw [← hw2]; exact (upd_one' _ _ _ _).trans (upd_one' _ _ _ _)
    have z2 := us.size
    have b0 : w2.cell? ⟨w.heap.size + 1, 0, none⟩ = some (.int .u64 X) := by rw [← hw2]; exact sc_ne (sc_eq b0) (by omega)
    have b1 : w2.cell? ⟨w.heap.size + 1, 1, none⟩ = some (.int .u64 Y) := by rw [← hw2]; exact sc_eq (sc_ne b1 (by omega))
    have a0 := (us.cell (p := ⟨w.heap.size, 0, none⟩) la ne2).trans a0
    have a1 := (us.cell (p := ⟨w.heap.size, 1, none⟩) la ne2).trans a1
    have fa0 := (us.frozen (p := ⟨w.heap.size, 0, none⟩) la ne2).trans fa0
    have fa1 := (us.frozen (p := ⟨w.heap.size, 1, none⟩) la ne2).trans fa1
    have R2 := HRN.out.upd us (fun b hb => (nr9 b hb).2)
    have HR2 := hide R2
    have U2 : Hid (Upd (rgb g pg mg n vt v) w w2) := hide ⟨us.os.trans U1.out.os, us.tape.trans U1.out.tape, us.output.trans U1.out.output, by have := U1.out.size; have := us.size; omega, fun b hb hs => (us.block b (by have := U1.out.size; omega) (by omega)).trans (U1.out.block b hb hs)⟩
    clear hw2 R2
    have lo2 : w.heap.size + 1 < w2.heap.size := by omega
    go_wp2
    have ur : Upd (· = w.heap.size) w2 ((w2.setCell ⟨w.heap.size, 0, none⟩ (.int .u64 X)).setCell ⟨w.heap.size, 1, none⟩ (.int .u64 Y)) := (upd_one' _ _ _ _).trans (upd_one' _ _ _ _)
    refine bodyPost_ret (v := .tuple #[.agg #[.int .u64 X, .int .u64 Y], .int .i64 E]) (by simp [results, Try.results22, go_sem, a0, a1]) rfl ⟨by rw [HX.out.1, HX.out.2.1, HX.out.2.2.1], vt, v9, ?_, fun b hb => (RB.out b hb).imp id (fun e => by omega), ?_⟩
    · rw [HX.out.2.2.2.1, HX.out.2.2.2.2, HX.out.2.2.1, tL_no hE0]
      exact HR2.out.upd ur (fun b hb => (nr9 b hb).1)
    · exact (U2.out.setCell (p := ⟨w.heap.size, 0, none⟩) (.inr (Nat.le_refl _)) _).setCell (p := ⟨w.heap.size, 1, none⟩) (.inr (Nat.le_refl _)) _
end

end Go.Proofs.Ytilngncjbikkgaa
