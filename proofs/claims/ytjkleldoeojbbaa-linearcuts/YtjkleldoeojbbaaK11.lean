import Derived.Test.YtjkleldoeojbbaaK10
namespace Go.Proofs.Ytjkleldoeojbbaa
open Go.RowKit Go.Maps
open Classical
set_option linter.unusedVariables false
set_option linter.unusedSimpArgs false

theorem ccs_len2 : ∀ L : List Cl, (ccs L).length = L.length * 2
  | [] => rfl
  | p :: r => by simp [ccs, ccs_len2 r]; omega
theorem copyPt (w : World) (N B : Nat) (D : List Bool) (L : List Cl) (v : Value) (ty : TypeId) (hD : D.length = 8) (hl : L.length ≤ 8) (hB : BB w N 167 (p18 D (L.length : Int))) (ho : OwnC B w v L) :
    ∃ V w', (Builtin.copy_ #[69, 69] ty #[.slice (some ⟨N, 9, none⟩) 8 8, v]).run Try.prog w = .ok V w' ∧ BB w' N 167 (ptC D L) ∧ Upd (fun k => k = N) w w' := by
  have hs : (Try.prog.info? 148).map (·.size) = some 2 := by kernel_rfl
  obtain ⟨a, c, rfl, h1, h2, h3, h4⟩ := ho.form
  cases a with
  | none =>
    obtain ⟨rfl, rfl⟩ := h3 rfl
    exact ⟨_, _, run_copy_nil w 69 69 ty 148 2 _ none 8 8 0 Try.underlying69 hs, hB, Upd.refl _ _⟩
  | some x =>
    obtain ⟨g, rfl, _, _⟩ := h4 x rfl
    have hcl := ccs_len2 L
    have hpl : (p18 D (L.length : Int)).length = 25 := by simp [p18, zc8, hD]
    refine ⟨_, _, run_copy_at w 69 69 ty 148 2 N 9 8 8 ⟨g, 0, none⟩ L.length c _ 167 (ccs L) Try.underlying69 hs hB hcl hl (World.ownsRow.cells ho (g := g) rfl) (by simp [hpl]; omega) (ccs_one L), ?_, ?_⟩
    · unfold BB
      rw [setRow_heap w N _ _ _ _ hB]
      have e : (p18 D (L.length : Int)).take 9 ++ ccs L ++ (p18 D (L.length : Int)).drop (9 + (ccs L).length) = ptC D L := by
        have e1 : p18 D (L.length : Int) = (D.map Value.bool ++ [.int .i64 (L.length : Int)]) ++ zc8 := by simp [p18]
        have l9 : (D.map Value.bool ++ [Value.int .i64 (L.length : Int)]).length = 9 := by simp [hD]
        rw [e1, List.take_append_of_le_length (by omega), List.take_of_length_le (by omega), List.drop_append, l9, List.drop_of_length_le (by omega), List.nil_append, Nat.add_sub_cancel_left, List.append_assoc, hcl, czs_ccs hl]
        simp [ptC]
      rw [List.toList_toArray, e]
    · refine ⟨rfl, rfl, rfl, by simp [World.setRow], fun k hk hn => setRow_other w N k _ hn⟩
theorem bel_ge {B N : Nat} {w w' : World} (u : Upd (fun k => k = N) w w') (hB : B ≤ w.heap.size) (hN : B ≤ N) : Below B w w' := u.below hB (fun k hk => by omega)
set_option maxRecDepth 100000 in
set_option maxHeartbeats 1000000 in
theorem pointOf_any (D : List Bool) (b : Nat) (m : Option Nat) (L : List Cl) (w : World) (hD : D.length = 8) (h : Led w b m L) (hl : L.length ≤ 8) :
    Calls Try.prog 85 #[.agg (D.map .bool).toArray, .pointer (some ⟨b, 0, none⟩)] w fun e w' => e = .returned (zPt.enc (D, L)) ∧ Below w.heap.size w w' := by
  have HL : ∀ W, Below w.heap.size w W → Led W b m L := fun W hW => h.upd (S := fun _ => False) (Upd.of_below hW) id (fun _ _ => id)
  clear h
  obtain ⟨b0, b1, b2, b3, b4, b5, b6, b7, rfl⟩ := list8 hD
  have bd := bdPt b0 b1 b2 b3 b4 b5 b6 b7 (L.length : Int)
  generalize hDD : [b0, b1, b2, b3, b4, b5, b6, b7] = D at *
  clear hDD b0 b1 b2 b3 b4 b5 b6 b7
  have hi8 : (Try.prog.info? 164).map (·.size) = some (D.map Value.bool).length := by rw [List.length_map, hD]; exact info8
  have hp25 : ∀ n, (p18 D n).length = 25 := fun n => by simp [p18, zc8, hD]
  have hq25 : (ptC D L).length = 25 := by simp [ptC, czs, hD]
  go_enter Try.func85, Try.ntmps85
  go_upto_region 0 with fail
  refine wp_region_lit ?_
  refine vl_gen (fun T => Rp T 16 [(1, gw true (.pointer (some ⟨b, 0, none⟩))), (0, gw true (.agg (D.map Value.bool).toArray))]) (((Rp.nil rfl).cons rfl).cons rfl) (fun Z0 q0 => ?_)
  obtain ⟨w1, hw1⟩ : ∃ y, y = w.alloc (.cells (D.map Value.bool).toArray 164) := ⟨_, rfl⟩
  refine vw (.pointer (some ⟨w.heap.size, 0, none⟩)) w1 (want_none rfl) (ex_box18 rfl (q0.e (j := 0) rfl) (by rw [hw1]; exact bxB8 _ _)) rfl q0.z (by decide) (q0.k fun Z1 q1 => ?_)
  clear q0
  have B1 : BB w1 w.heap.size 164 (D.map Value.bool) := by rw [hw1]; exact BB.new _ _ _
  have c1 : Below w.heap.size w w1 := by rw [hw1]; exact (Below.refl _ _).alloc (Nat.le_refl _) _
  have z1 : w1.heap.size = w.heap.size + 1 := by rw [hw1]; simp
  clear hw1
  obtain ⟨w2, hw2⟩ : ∃ y, y = w1.alloc (.cells (p18 D0 0).toArray 167) := ⟨_, rfl⟩
  refine vw (.pointer (some ⟨w1.heap.size, 0, none⟩)) w2 (want_none rfl) (ex_al rfl (by rw [hw2]; exact alPt _)) rfl q1.z (by decide) (q1.k fun Z2 q2 => ?_)
  clear q1
  have B2 : BB w2 w1.heap.size 167 (p18 D0 0) := by rw [hw2]; exact BB.new _ _ _
  have c12 : Below w1.heap.size w1 w2 := by rw [hw2]; exact (Below.refl _ _).alloc (Nat.le_refl _) _
  have z2 : w2.heap.size = w.heap.size + 2 := by rw [hw2]; simp; omega
  clear hw2
  replace B1 := B1.later c12
  have c2 : Below w.heap.size w w2 := c1.trans (c12.mono (by omega))
  clear c1 c12
  refine wpList_nil ?_
  go_upto_region 1 with fail
  refine v_cut18 (fun T' w' => ∃ N, Rp T' 16 [(5, gw true (.pointer (some ⟨N, 0, none⟩))), (4, gw true (.pointer (some ⟨w1.heap.size, 0, none⟩))), (1, gw true (.pointer (some ⟨b, 0, none⟩)))] ∧ BB w' N 167 (p18 D (L.length : Int)) ∧ w2.heap.size ≤ N ∧ Below w2.heap.size w2 w') ?_ ?_
  · refine vh_start (fun v => Below w2.heap.size w2 v) (by kernel_rfl) ?_
    have hS : Below w2.heap.size w2 w2.drew := (Below.refl _ _).drew
    have hz : w2.drew.heap.size = w2.heap.size := rfl
    generalize w2.drew = u at *
    have hLu := HL u (c2.trans (hS.mono (by omega)))
    have hA : Below w2.heap.size w2 (u.alloc (.cells (p18 D0 0).toArray 167)) := hS.alloc (by omega) _
    refine vh_take 0 true (.agg (D.map Value.bool).toArray) rfl (by kernel_rfl) (by kernel_rfl) (by kernel_rfl) (want_none rfl) (fun hc v hv => ex_ld rfl (q2.e (j := 2) rfl) ((B1.later hv).ld 164 Try.underlying164 rfl hi8)) rfl q2.z (by decide) hS (q2.k fun Z3 q3 => ?_)
    clear q2
    refine vh_take 1 true (.pointer (some ⟨b, 0, none⟩)) rfl (by kernel_rfl) (by kernel_rfl) (by kernel_rfl) (want_none rfl) (fun hc v hv => ex_move rfl (q3.e (j := 1) rfl)) rfl q3.z (by decide) hS (q3.k fun Z4 q4 => ?_)
    clear q3
    refine vh_two18 2 4 (by kernel_rfl) rfl rfl (want_none rfl) (ex_call rfl (by simp only [List.map_toArray, List.map_cons, List.map_nil, q4.e (j := 7) rfl, evc] <;> rfl) rfl) (lenm_any b m L u hLu) rfl q4.z (by decide) ?_ (.pointer (some ⟨u.heap.size, 0, none⟩)) _ (want_none rfl) (ex_al rfl (alPt _)) rfl (by decide) hA ?_
    · rintro e w' ⟨rfl, rfl⟩
      refine ⟨_, rfl, hS, q4.k fun Z5 q5 => ?_⟩
      clear q4
      refine vh_take 3 true (.agg (p18 D (L.length : Int)).toArray) rfl (by kernel_rfl) (by kernel_rfl) (by kernel_rfl) (want_none rfl) (fun hc v hv => ex_buildP18 rfl (by simp only [List.map_toArray, List.map_cons, List.map_nil, q5.e (j := 6) rfl, q5.e (j := 8) rfl]) (bd v)) rfl q5.z (by decide) hS (q5.k fun Z6 q6 => ?_)
      clear q5
      refine vh_val18 4 (.pointer (some ⟨w'.heap.size, 0, none⟩)) _ rfl (by kernel_rfl) (want_none rfl) (ex_al rfl (alPt _)) rfl q6.z (by decide) hA (q6.k fun Z7 q7 => ?_)
      clear q6
      have hN := BB.new w' 167 (p18 D0 0)
      refine vh_store18 5 _ rfl (by kernel_rfl) (want_none rfl) (ex_st rfl (q7.e (j := 5) rfl) (q7.e (j := 9) rfl) (hN.st 167 (p18 D (L.length : Int)) (hp25 _) (by rw [List.size_toArray, hp25]; exact info25) (one25 _ _))) rfl (hA.trans (bel_ge (upd18 _ _ _ _) (by have := hA.size; omega) (by omega))) ?_
      refine vh_done (by kernel_rfl) ?_
      exact ⟨_, rfl, w'.heap.size, (((Rp.nil q7.z).cons (q7.a 1 rfl)).cons (q7.a 4 rfl)).cons (q7.a 5 rfl), hN.whole _ (hp25 _), by omega, hA.trans (bel_ge (upd18 _ _ _ _) (by have := hA.size; omega) (by omega))⟩
    · refine q4.k fun Z5 q5 => ?_
      clear q4
      have hN := BB.new u 167 (p18 D0 0)
      have hLA := HL _ (c2.trans (hA.mono (by omega)))
      generalize hv : u.alloc (.cells (p18 D0 0).toArray 167) = v at *
      refine vh_call 2 rfl (by kernel_rfl) (want_none rfl) (ex_call rfl (by simp only [List.map_toArray, List.map_cons, List.map_nil, q5.e (j := 7) rfl, evc] <;> rfl) rfl) (lenm_any b m L v hLA) rfl q5.z (by decide) ?_
      rintro e w' ⟨rfl, rfl⟩
      refine ⟨_, rfl, hA, q5.k fun Z6 q6 => ?_⟩
      clear q5
      refine vh_take 3 true (.agg (p18 D (L.length : Int)).toArray) rfl (by kernel_rfl) (by kernel_rfl) (by kernel_rfl) (want_none rfl) (fun hc v hv => ex_buildP18 rfl (by simp only [List.map_toArray, List.map_cons, List.map_nil, q6.e (j := 6) rfl, q6.e (j := 8) rfl]) (bd v)) rfl q6.z (by decide) hA (q6.k fun Z7 q7 => ?_)
      clear q6
      refine vh_store18 5 _ rfl (by kernel_rfl) (want_none rfl) (ex_st rfl (q7.e (j := 5) rfl) (q7.e (j := 9) rfl) (hN.st 167 (p18 D (L.length : Int)) (hp25 _) (by rw [List.size_toArray, hp25]; exact info25) (one25 _ _))) rfl (hA.trans (bel_ge (upd18 _ _ _ _) (by have := hA.size; omega) (by omega))) ?_
      refine vh_done (by kernel_rfl) ?_
      exact ⟨_, rfl, u.heap.size, (((Rp.nil q7.z).cons (q7.a 1 rfl)).cons (q7.a 4 rfl)).cons (q7.a 5 rfl), hN.whole _ (hp25 _), by omega, hA.trans (bel_ge (upd18 _ _ _ _) (by have := hA.size; omega) (by omega))⟩
  · rintro Z3 w3 ⟨N, q3, B3, hN, c3⟩
    clear q2 B1
    have B4 := B2.later c3
    clear B2
    have z3 := c3.size
    have hNl := B3.lt
    go_upto_region 2 with fail
    refine vh_start (fun _ => True) (by kernel_rfl) ?_
    have hS : Below w3.heap.size w3 w3.drew := (Below.refl _ _).drew
    have hz : w3.drew.heap.size = w3.heap.size := rfl
    generalize w3.drew = u at *
    have hLu := HL u (c2.trans ((c3.trans (hS.mono (by omega))).mono (by omega)))
    refine vh_take 0 true (.pointer (some ⟨N, 9, none⟩)) rfl (by kernel_rfl) (by kernel_rfl) (by kernel_rfl) (want_none rfl) (fun hc v hv => ex_fa rfl (q3.e (j := 5) rfl) (faPt _ _)) rfl q3.z (by decide) trivial (q3.k fun Z4 q4 => ?_)
    clear q3
    refine vh_take 1 true (.slice (some ⟨N, 9, none⟩) 8 8) rfl (by kernel_rfl) (by kernel_rfl) (by kernel_rfl) (want_none rfl) (fun hc v hv => ex_sl18 rfl (q4.e (j := 10) rfl) (slPt _ _)) rfl q4.z (by decide) trivial (q4.k fun Z5 q5 => ?_)
    clear q4
    refine vh_take 2 true (.pointer (some ⟨b, 0, none⟩)) rfl (by kernel_rfl) (by kernel_rfl) (by kernel_rfl) (want_none rfl) (fun hc v hv => ex_move rfl (q5.e (j := 1) rfl)) rfl q5.z (by decide) trivial (q5.k fun Z6 q6 => ?_)
    clear q5
    refine vh_call 3 rfl (by kernel_rfl) (want_none rfl) (ex_call rfl (by simp only [List.map_toArray, List.map_cons, List.map_nil, q6.e (j := 12) rfl, evc] <;> rfl) rfl) (cells_any b m L u hLu) rfl q6.z (by decide) ?_
    rintro e w4 ⟨v, rfl, oc, c4⟩
    have hS4 : Below w3.heap.size w3 w4 := hS.trans (c4.mono (by omega))
    refine ⟨v, rfl, trivial, q6.k fun Z7 q7 => ?_⟩
    clear q6
    obtain ⟨V, w5, hr, B5, u5⟩ := copyPt w4 N _ D L v 3 hD hl (B3.later hS4) oc
    have hS5 : Below w2.heap.size w2 w5 := (c3.trans (hS4.mono z3)).trans (bel_ge u5 (by have := hS4.size; omega) hN)
    have B6 : BB w5 w1.heap.size 167 (p18 D0 0) := (B4.later hS4).upd u5 (by have := B4.lt; omega)
    refine vh_val18 4 V w5 rfl (by kernel_rfl) (want_none rfl) (ex_copy18 rfl (q7.e (j := 11) rfl) (q7.e (j := 13) rfl) hr) rfl q7.z (by decide) trivial (q7.k fun Z8 q8 => ?_)
    clear q7
    refine vh_done (by kernel_rfl) ?_
    go_upto_region 3 with fail
    refine wp_region_lit ?_
    have q9 := (((Rp.nil q8.z).cons (q8.a 4 rfl)).cons (q8.a 5 rfl))
    clear q8
    refine q9.t (.agg (ptC D L).toArray) (ex_ld rfl (q9.e (j := 5) rfl) (B5.ld 167 Try.underlying167 rfl (by rw [hq25]; exact info25))) fun Z10 q10 => ?_
    clear q9
    refine vs _ (want_none rfl) (ex_st rfl (q10.e (j := 4) rfl) (q10.e (j := 15) rfl) (B6.st 167 (ptC D L) (by rw [hq25]; rfl) (by rw [List.size_toArray, hq25]; exact info25) (ptC_one _ _))) rfl ?_
    refine wpList_nil ?_
    have B7 := B6.whole (ptC D L) (by rw [hq25]; rfl)
    have c7 : Below w.heap.size w (w5.setCells w1.heap.size 0 (ptC D L)) := (c2.trans (hS5.mono (by omega))).trans (bel_ge (upd18 _ _ _ _) (by have := hS5.size; omega) (by omega))
    go_wp2
    exact B7.res rfl (q10.a 4 rfl) Try.underlying167 rfl (by rw [hq25]; exact info25) ⟨rfl, c7⟩

end Go.Proofs.Ytjkleldoeojbbaa
