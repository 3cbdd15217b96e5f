import Derived.Test.YtdfoafpcoigklaaKd
namespace Go.Proofs.Ytdfoafpcoigklaa
open Go.RowKit Go.Shelf
open Classical
set_option linter.unusedVariables false
set_option linter.unusedSimpArgs false
attribute [local go_sem] Oper.semAt_some

/-- The first place of a client's request. -/
def fdA (c n : Int) : List En → Nat → Nat
  | [], _ => 0
  | e :: r, i => if e.c = c ∧ e.n = n then i + 1 else fdA c n r (i + 1)
def fd (L : List En) (c n : Int) : Nat := fdA c n L 0
theorem fdA_at {L : List En} {j : Nat} {e : En} (c n : Int) (h : L[j]? = some e) : fdA c n (L.drop j) j = if e.c = c ∧ e.n = n then j + 1 else fdA c n (L.drop (j + 1)) (j + 1) := by
  have hj := (List.getElem?_eq_some_iff.1 h).1
  have he := (List.getElem?_eq_some_iff.1 h).2
  rw [List.drop_eq_getElem_cons hj, he, fdA]
/-- What a loop over Each leaves as it was. -/
theorem up_row {S : Nat → Prop} {w W W' : World} {row : Option Nat} (h : Upd S w W) (hg : W.grownBy W' row) (hr : ∀ r, row = some r → r = w.heap.size + 1) : Upd S w W' := h.grownBy hg (fun k e hk => by have := hr k e; omega)
set_option maxRecDepth 100000 in
set_option maxHeartbeats 1000000 in
theorem findO_any (L : List En) (a : Option Addr) (n c : Nat) (cl nu : Int) (w : World) (h : SlY yE w a n c L) (hb : n * 48 ≤ 140737488355328) :
    Calls Try.prog 36 #[.slice a n c, .int .i64 cl, .int .i64 nu] w fun e w' => e = .returned (.int .i64 (fd L cl nu)) ∧ Below w.heap.size w w' := by
  have hln := h.len
  have H := hide h
  clear h
  refine (callsIn_wide (n := 4)).1 ?_
  refine callsIn_of_wp_marks Try.func36 rfl trivial ?_ rfl
  simp only [Try.ntmps36, List.size_toArray, List.length_cons, List.length_nil, Nat.reduceAdd, Nat.reduceSub, Array.replicate_succ, Array.replicate_zero, List.push_toArray, List.append_toArray, List.nil_append, List.cons_append]
  subst hln
  gi_wp2_with fail
  refine ⟨trivial, ?_⟩
  obtain ⟨w3, hw3⟩ : ∃ w3, (((w.alloc (Obj.cells #[Value.int IntKind.i64 cl] 3)).alloc (Obj.cells #[Value.int IntKind.i64 nu] 3)).alloc (Obj.cells #[Value.int IntKind.i64 0] 3)) = w3 := ⟨_, rfl⟩
  rw [hw3]
  have b3 : Below w.heap.size w w3 := by rw [← hw3]; exact (((Below.refl _ _).alloc (Nat.le_refl _) _).alloc (by simp) _).alloc (by simp; omega) _
  have z3 : w3.heap.size = w.heap.size + 3 := by rw [← hw3]; simp
  have c0 : w3.cell? ⟨w.heap.size, 0, none⟩ = some (.int .i64 cl) := by subst hw3; go_simp
  have c1 : w3.cell? ⟨w.heap.size + 1, 0, none⟩ = some (.int .i64 nu) := by subst hw3; go_simp
  have c2 : w3.cell? ⟨w.heap.size + 1 + 1, 0, none⟩ = some (.int .i64 0) := by subst hw3; go_simp
  have f2 : w3.frozen? ⟨w.heap.size + 1 + 1, 0, none⟩ = false := by subst hw3; go_simp
  clear hw3
  refine (callsIn_wide.2 (eachO_one L a L.length c w3 (H.out.later b3) hb)).mono ?_
  rintro e w4 ⟨g, k, f, rfl, ea⟩
  have d0 := (ea.bel.cell (p := ⟨w.heap.size, 0, none⟩) (by show w.heap.size < _; omega)).trans c0
  have d1 := (ea.bel.cell (p := ⟨w.heap.size + 1, 0, none⟩) (by show w.heap.size + 1 < _; omega)).trans c1
  have d2 := (ea.bel.cell (p := ⟨w.heap.size + 1 + 1, 0, none⟩) (by show w.heap.size + 1 + 1 < _; omega)).trans c2
  have g2 := (ea.bel.frozen (p := ⟨w.heap.size + 1 + 1, 0, none⟩) (by show w.heap.size + 1 + 1 < _; omega)).trans f2
  have b4 : Below w.heap.size w w4 := b3.trans (ea.bel.mono (by omega))
  have z4 : w.heap.size + 3 ≤ w4.heap.size := by have := ea.bel.size; omega
  clear c0 c1 c2 f2 b3
  obtain ⟨gb, lt, kc, fc, row, _⟩ := ea
  obtain ⟨l1, l2, l3⟩ := lt
  have lie : LieY yE w4 g 0 L := fun i x hx j u hu => by rw [Nat.zero_add]; exact row.cell kE i x hx j u hu
  have hN : g ≠ w.heap.size + 1 + 1 ∧ k ≠ w.heap.size + 1 + 1 ∧ f ≠ w.heap.size + 1 + 1 := by omega
  clear z3 row
  have HB4 := hide b4
  have HZ4 := hide z4
  have HL := hide lie
  clear b4 z4 lie gb
  gi_wp2
  refine over_each (n := 4) (by omega) L 1 k f g rfl rfl (by omega) (by omega) hb l2 l3 l1 kc fc HL.out
    (fun i W => Upd (fun _ => False) w4 W ∧ Hid (fd L cl nu = fdA cl nu (L.drop i) i))
    (fun cd i W => cd = .ret ∧ W.cell? ⟨w.heap.size + 1 + 1, 0, none⟩ = some (.int .i64 (fd L cl nu)) ∧ Upd (· = w.heap.size + 1 + 1) w4 W)
    (fun i W W' row hi hg hr => ⟨up_row hi.1 hg hr, hi.2⟩)
    (fun cd i W W' hi hg => ⟨hi.1, gcell hg hi.2.1 (fun e => by injection e with e; have := HZ4.out; omega), up_row hi.2.2 hg (fun r e => by cases e; rfl)⟩)
    (fun i W hi => ⟨hi.1.size, fun j hj => hi.1.block j (by rcases hj with rfl | rfl | rfl <;> assumption) id⟩)
    ⟨Upd.refl _ _, hide rfl⟩ ?round ?done ?stop
  case round =>
    rintro i x W hx ⟨u, hf⟩ hlt
    have hst := fdA_at cl nu hx
    obtain ⟨xc, xn, ⟨ok, os, ov⟩⟩ := x
    dsimp only at hst
    dsimp only [En.val]
    gi_wp2
    refine ⟨⟨⟨u.alloc _, hf⟩, Below.heap_alloc _ _ _ (by omega), Below.heap_alloc _ _ _ hlt⟩, ?_⟩
    rintro W2 ⟨u2, hf2⟩ hg2
    have hne : ∀ j, W.heap.size ≠ j ∨ True := fun _ => .inr trivial
    have e0 : W2.cell? ⟨W.heap.size, 0, none⟩ = some (.int .i64 xc) := gcell hg2 (World.cell?_alloc_at _ _ _ _ rfl) (fun e => by injection e with e; omega)
    have e1 : W2.cell? ⟨W.heap.size, 1, none⟩ = some (.int .i64 xn) := gcell hg2 (World.cell?_alloc_at _ _ _ _ rfl) (fun e => by injection e with e; omega)
    have zl := HZ4.out
    have i0 := (u2.cell (p := ⟨w.heap.size, 0, none⟩) (by show w.heap.size < _; omega) id).trans d0
    have i1 := (u2.cell (p := ⟨w.heap.size + 1, 0, none⟩) (by show w.heap.size + 1 < _; omega) id).trans d1
    have i2 := (u2.cell (p := ⟨w.heap.size + 1 + 1, 0, none⟩) (by show w.heap.size + 1 + 1 < _; omega) id).trans d2
    have j2 := (u2.frozen (p := ⟨w.heap.size + 1 + 1, 0, none⟩) (by show w.heap.size + 1 + 1 < _; omega) id).trans g2
    have HST := hide hst
    have hz0 : w4.heap.size ≠ w.heap.size + 1 + 1 := by omega
    have hz1 : w4.heap.size + 1 ≠ w.heap.size + 1 + 1 := by omega
    clear hst hne
    by_cases hc : xc = cl
    · by_cases hn : xn = nu
      · subst hc hn
        have hE : Hid (fd L xc xn = i + 1) := by show _ = _; rw [hf2.out, HST.out]; simp
        gi_wp2
        have hv : Hid ((1 : Int) + (i : Int) = ((i + 1 : Nat) : Int)) := by show _ = _; omega
        refine ⟨⟨Below.heap_setCell _ _ _ _ hz0, Below.heap_setCell _ _ _ _ hz1⟩, rfl, ?_, ?_⟩
        · rw [hE.out, ← hv.out]
          exact setc_eq i2
        · exact Upd.setCell (S := (· = w.heap.size + 1 + 1)) (u2.mono (fun _ _ h => h.elim)) (.inl rfl) _
      · have hE : Hid (fd L cl nu = fdA cl nu (L.drop (i + 1)) (i + 1)) := by show _ = _; rw [hf2.out, HST.out]; simp [hn]
        have dn : decide (xn = nu) = false := by simpa using hn
        subst hc
        gi_wp2
        exact ⟨⟨rfl, rfl⟩, u2, hE⟩
    · have hE : Hid (fd L cl nu = fdA cl nu (L.drop (i + 1)) (i + 1)) := by show _ = _; rw [hf2.out, HST.out]; simp [hc]
      have dn : decide (xc = cl) = false := by simpa using hc
      gi_wp2
      exact ⟨⟨rfl, rfl⟩, u2, hE⟩
  case done =>
    rintro W ⟨u, hf⟩ hK
    have zl := HZ4.out
    have i2 := (u.cell (p := ⟨w.heap.size + 1 + 1, 0, none⟩) (by show w.heap.size + 1 + 1 < _; omega) id).trans d2
    have j2 := (u.frozen (p := ⟨w.heap.size + 1 + 1, 0, none⟩) (by show w.heap.size + 1 + 1 < _; omega) id).trans g2
    have hE : Hid (fd L cl nu = 0) := by show _ = _; rw [hf.out]; simp [fdA]
    gi_wp2
    have hK2 : (W.setCell ⟨w.heap.size + 1 + 1, 0, none⟩ (Value.int IntKind.i64 0)).heap[w4.heap.size]? = some (.deferred (some [])) := (Below.heap_setCell W _ _ _ (by show w4.heap.size ≠ w.heap.size + 1 + 1; omega)).trans hK
    refine ⟨by simp, .inl ⟨_, _, rfl, run_takeDeferred hK2, ?_⟩⟩
    have hc5 : ((W.setCell ⟨w.heap.size + 1 + 1, 0, none⟩ (Value.int IntKind.i64 0)).putObj w4.heap.size (.deferred none)).cell? ⟨w.heap.size + 1 + 1, 0, none⟩ = some (.int .i64 0) := gcell (grownBy_putObj' _ _ _) (setc_eq i2) (fun e => by injection e with e; omega)
    refine ⟨.int .i64 0, ?_, by rw [hE.out]; rfl, ?_⟩
    · simp [results, Try.f36, go_sem, hc5]
    · exact (((HB4.out.trans (u.below (by omega) (fun _ h => h.elim))).setCell (by show w.heap.size ≤ w.heap.size + 1 + 1; omega) _).grown (grownBy_putObj' _ _ _) (by simp [World.setCell]; have := u.size; omega) (fun k e => by cases e; omega))
  case stop =>
    rintro cd i W hi ⟨rfl, hc, u⟩ hK
    have zl := HZ4.out
    gi_wp2
    refine ⟨by simp, .inl ⟨_, _, rfl, run_takeDeferred hK, ?_⟩⟩
    have hc5 : (W.putObj w4.heap.size (.deferred none)).cell? ⟨w.heap.size + 1 + 1, 0, none⟩ = some (.int .i64 (fd L cl nu)) := gcell (grownBy_putObj' _ _ _) hc (fun e => by injection e with e; omega)
    refine ⟨_, ?_, rfl, ?_⟩
    · simp [results, Try.f36, go_sem, hc5]
    · exact ((HB4.out.trans (u.below (by omega) (fun _ h => by omega))).grown (grownBy_putObj' _ _ _) (by have := u.size; omega) (fun k e => by cases e; omega))

theorem gm_take {L : List En} {j : Nat} {e : En} (c : Int) (h : L[j]? = some e) : gm (L.take (j + 1)) c = if e.c = c then max (gm (L.take j) c) e.n else gm (L.take j) c := by
  rw [List.take_add_one, h]
  exact gm_snoc _ _ _
set_option maxRecDepth 100000 in
set_option maxHeartbeats 1000000 in
theorem lastO_any (L : List En) (a : Option Addr) (n c : Nat) (cl : Int) (w : World) (h : SlY yE w a n c L) (hb : n * 48 ≤ 140737488355328) :
    Calls Try.prog 38 #[.slice a n c, .int .i64 cl] w fun e w' => e = .returned (.int .i64 (gm L cl)) ∧ Below w.heap.size w w' := by
  have hln := h.len
  have H := hide h
  clear h
  refine (callsIn_wide (n := 4)).1 ?_
  refine callsIn_of_wp_marks Try.func38 rfl trivial ?_ rfl
  simp only [Try.ntmps38, List.size_toArray, List.length_cons, List.length_nil, Nat.reduceAdd, Nat.reduceSub, Array.replicate_succ, Array.replicate_zero, List.push_toArray, List.append_toArray, List.nil_append, List.cons_append]
  subst hln
  gi_wp2_with fail
  refine ⟨trivial, ?_⟩
  obtain ⟨w3, hw3⟩ : ∃ w3, ((w.alloc (Obj.cells #[Value.int IntKind.i64 cl] 3)).alloc (Obj.cells #[Value.int IntKind.i64 0] 3)) = w3 := ⟨_, rfl⟩
  rw [hw3]
  have b3 : Below w.heap.size w w3 := by rw [← hw3]; exact ((Below.refl _ _).alloc (Nat.le_refl _) _).alloc (by simp) _
  have z3 : w3.heap.size = w.heap.size + 2 := by rw [← hw3]; simp
  have c0 : w3.cell? ⟨w.heap.size, 0, none⟩ = some (.int .i64 cl) := by subst hw3; go_simp
  have c1 : w3.cell? ⟨w.heap.size + 1, 0, none⟩ = some (.int .i64 0) := by subst hw3; go_simp
  have f1 : w3.frozen? ⟨w.heap.size + 1, 0, none⟩ = false := by subst hw3; go_simp
  clear hw3
  refine (callsIn_wide.2 (eachO_one L a L.length c w3 (H.out.later b3) hb)).mono ?_
  rintro e w4 ⟨g, k, f, rfl, ea⟩
  have d0 := (ea.bel.cell (p := ⟨w.heap.size, 0, none⟩) (by show w.heap.size < _; omega)).trans c0
  have d1 := (ea.bel.cell (p := ⟨w.heap.size + 1, 0, none⟩) (by show w.heap.size + 1 < _; omega)).trans c1
  have g1 := (ea.bel.frozen (p := ⟨w.heap.size + 1, 0, none⟩) (by show w.heap.size + 1 < _; omega)).trans f1
  have b4 : Below w.heap.size w w4 := b3.trans (ea.bel.mono (by omega))
  have z4 : w.heap.size + 2 ≤ w4.heap.size := by have := ea.bel.size; omega
  clear c0 c1 f1 b3
  obtain ⟨gb, lt, kc, fc, row, _⟩ := ea
  obtain ⟨l1, l2, l3⟩ := lt
  have lie : LieY yE w4 g 0 L := fun i x hx j u hu => by rw [Nat.zero_add]; exact row.cell kE i x hx j u hu
  have hN : Hid (g ≠ w.heap.size + 1 ∧ k ≠ w.heap.size + 1 ∧ f ≠ w.heap.size + 1) := by show _ ∧ _; omega
  clear z3 row
  have HB4 := hide b4
  have HZ4 := hide z4
  have HL := hide lie
  clear b4 z4 lie gb
  gi_wp2
  refine over_each (n := 4) (by omega) L 1 k f g rfl rfl (by omega) (by omega) hb l2 l3 l1 kc fc HL.out
    (fun i W => Upd (· = w.heap.size + 1) w4 W ∧ W.cell? ⟨w.heap.size + 1, 0, none⟩ = some (.int .i64 (gm (L.take i) cl)) ∧ W.frozen? ⟨w.heap.size + 1, 0, none⟩ = false)
    (fun cd i W => False)
    (fun i W W' row hi hg hr => ⟨up_row hi.1 hg hr, gcell hg hi.2.1 (fun e => by have := hr _ e; have := HZ4.out; omega), gfroz hg (by have := HZ4.out; have := hi.1.size; omega) hi.2.2 (fun e => by have := hr _ e; have := HZ4.out; omega)⟩)
    (fun cd i W W' hi hg => hi)
    (fun i W hi => ⟨hi.1.size, fun j hj => hi.1.block j (by rcases hj with rfl | rfl | rfl <;> assumption) (by have := hN.out; rcases hj with rfl | rfl | rfl <;> omega)⟩)
    ⟨Upd.refl _ _, d1, g1⟩ ?round ?done ?stop
  case round =>
    rintro i x W hx ⟨u, hc1, hf1⟩ hlt
    have hst := gm_take cl hx
    obtain ⟨xc, xn, ⟨ok, os, ov⟩⟩ := x
    dsimp only at hst
    dsimp only [En.val]
    have zl := HZ4.out
    have us := u.size
    gi_wp2
    refine ⟨⟨⟨u.alloc _, (World.cell?_alloc_past _ _ _ (by show w.heap.size + 1 < _; omega)).trans hc1, (World.frozen?_of_block (w := W) (Below.heap_alloc _ _ _ (by show w.heap.size + 1 < _; omega))).trans hf1⟩, Below.heap_alloc _ _ _ (by omega), Below.heap_alloc _ _ _ hlt⟩, ?_⟩
    rintro W2 ⟨u2, hc2, hf2⟩ hg2
    have e0 : W2.cell? ⟨W.heap.size, 0, none⟩ = some (.int .i64 xc) := gcell hg2 (World.cell?_alloc_at _ _ _ _ rfl) (fun e => by injection e with e; omega)
    have e1 : W2.cell? ⟨W.heap.size, 1, none⟩ = some (.int .i64 xn) := gcell hg2 (World.cell?_alloc_at _ _ _ _ rfl) (fun e => by injection e with e; omega)
    have i0 := (u2.cell (p := ⟨w.heap.size, 0, none⟩) (by show w.heap.size < _; omega) (by show w.heap.size ≠ _; omega)).trans d0
    have hz0 : w4.heap.size ≠ w.heap.size + 1 := by omega
    have hz1 : w4.heap.size + 1 ≠ w.heap.size + 1 := by omega
    have HST := hide hst
    clear hst hc1 hf1
    generalize gm (L.take i) cl = G at *
    by_cases hc : xc = cl
    · have hE : Hid (gm (L.take (i + 1)) cl = max G xn) := by show _ = _; rw [HST.out]; simp [hc]
      subst hc
      gi_wp2
      refine ⟨⟨Below.heap_setCell _ _ _ _ hz0, Below.heap_setCell _ _ _ _ hz1⟩, ?_, ?_, setf hf2⟩
      · exact Upd.setCell (S := (· = w.heap.size + 1)) u2 (.inl rfl) _
      · rw [hE.out]
        exact setc_eq hc2
    · have hE : Hid (gm (L.take (i + 1)) cl = G) := by show _ = _; rw [HST.out]; simp [hc]
      have dn : decide (xc = cl) = false := by simpa using hc
      gi_wp2
      refine ⟨⟨rfl, rfl⟩, u2, ?_, hf2⟩
      rw [hE.out]
      exact hc2
  case done =>
    rintro W ⟨u, hc, hf⟩ hK
    have zl := HZ4.out
    rw [List.take_length] at hc
    gi_wp2
    refine ⟨by simp, .inl ⟨_, _, rfl, run_takeDeferred hK, ?_⟩⟩
    exact ⟨_, results_tmp rfl _ _ _, rfl, ((HB4.out.trans (u.below (by omega) (fun _ h => by omega))).grown (grownBy_putObj' _ _ _) (by have := u.size; omega) (fun k e => by cases e; omega))⟩
  case stop =>
    rintro cd i W hi h hK
    exact h.elim

end Go.Proofs.Ytdfoafpcoigklaa
