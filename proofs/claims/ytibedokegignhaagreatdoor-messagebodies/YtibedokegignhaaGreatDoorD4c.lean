import Derived.Test.YtibedokegignhaaGreatDoorD4b
namespace Go.Proofs.YtibedokegignhaaGreatDoor
open Go.RowKit Go.Maps
open Classical
set_option linter.unusedVariables false
set_option linter.unusedSimpArgs false
set_option maxRecDepth 100000 in
set_option maxHeartbeats 2000000 in
theorem rresult_any (N b : Nat) (l : List Int) (s : Nat × Int) (w : World) (h : RD N w b l s) : Calls Tryz.prog 132 #[.agg #[.pointer (some ⟨b, 0, none⟩)]] w fun e w' => e = .returned (.agg #[.int .i64 (rO l s).k, .int .i64 (rO l s).s, .string (rO l s).v]) ∧ RD N w' b l (sO l s) ∧ UB b w w' := by
  have hlt := h.lt
  have hqb : w.heap.size ≠ b := by omega
  have hqb2 : w.heap.size + 1 ≠ b := by omega
  go_enter Tryz.func132, Tryz.ntmps132
  go_upto_region 1 with fail
  obtain ⟨w1, hw1⟩ : ∃ w1, w1 = (w.alloc (.cells #[.pointer (some ⟨b, 0, none⟩)] 157)).alloc (.cells #[.int .i64 0, .int .i64 0, .string ⟨#[]⟩] 30) := ⟨_, rfl⟩
  rw [← hw1]
  have hb01 : Below w.heap.size w w1 := by rw [hw1]; exact ((Below.refl _ _).alloc (Nat.le_refl _) _).alloc (by simp) _
  have B1_0 : Bx w1 w.heap.size [.pointer (some ⟨b, 0, none⟩)] := by rw [hw1]; exact (Bx.new w [.pointer (some ⟨b, 0, none⟩)] _).later ((Below.refl _ _).alloc (Nat.le_refl _) _)
  have B2_0 : Bx w1 (w.heap.size + 1) [.int .i64 0, .int .i64 0, .string ⟨#[]⟩] := by rw [hw1]; have := Bx.new (w.alloc (.cells #[.pointer (some ⟨b, 0, none⟩)] 157)) [.int .i64 0, .int .i64 0, .string ⟨#[]⟩] 30; simpa using this
  have hR1 := h.later hb01
  have hv0 : UB b w w1 := UB.of_below hb01
  clear hw1
  refine vh_start (fun v => UB b w1 v) (by kernel_rfl) ?_
  have hS : UB b w1 w1.drew := UB.of_below (Below.refl _ _).drew
  have hR1d := hR1.later (Below.refl _ _).drew
  have B1_0d := B1_0.later (Below.refl _ _).drew
  have B2_0d := B2_0.later (Below.refl _ _).drew
  refine vh_gen (fun T => T.size = 15 ∧ T[1]? = some (gw true (.pointer (some ⟨w.heap.size, 0, none⟩))) ∧ T[2]? = some (gw true (.pointer (some ⟨w.heap.size + 1, 0, none⟩)))) ⟨rfl, rfl, rfl⟩ (fun T0 ⟨hz, s1, s2_⟩ => ?_)
  have s2 := s2_
  clear s2_
  refine vh_take 0 true (.agg #[.pointer (some ⟨b, 0, none⟩)]) rfl (by kernel_rfl) (by kernel_rfl) (by kernel_rfl) (want_none rfl) (fun hc v hv => ex_ld rfl (ev s1 rfl) (ldRd ((B1_0.ub hv hqb).cell 0 _ rfl))) rfl hz (by decide) hS (fun A1_1 zz kk s5 => ?_)
  replace s1 := kt kk s1
  replace s2 := kt kk s2
  replace hz := zz
  clear kk zz
  refine vh_take 2 true (.agg #[.pointer (some ⟨b, 0, none⟩)]) rfl (by kernel_rfl) (by kernel_rfl) (by kernel_rfl) (want_none rfl) (fun hc v hv => ex_ld rfl (ev s1 rfl) (ldRd ((B1_0.ub hv hqb).cell 0 _ rfl))) rfl hz (by decide) hS (fun A1_2 zz kk s7 => ?_)
  replace s1 := kt kk s1
  replace s2 := kt kk s2
  replace s5 := kt kk s5
  replace hz := zz
  clear kk zz A1_1
  refine vh_call 1 rfl (by kernel_rfl) (want_none rfl) (ex_call rfl (by simp only [List.map_toArray, List.map_cons, List.map_nil, (ev s5 rfl), evc] <;> rfl) rfl) (rnumber_any N b l s w1.drew hR1d) rfl hz (by decide) ?_
  rintro e v1 ⟨rfl, hR2, hu1⟩
  refine ⟨_, rfl, (hS.trans hu1), fun A1_3 zz kk s6 => ?_⟩
  have B1_1 := B1_0d.ub hu1 hqb
  have B2_1 := B2_0d.ub hu1 hqb2
  have hv1 := hv0.trans (UB.trans (UB.of_below (Below.refl _ _).drew) hu1)
  have hSn1 := hS.trans hu1
  replace s1 := kt kk s1
  replace s2 := kt kk s2
  replace s7 := kt kk s7
  replace hz := zz
  clear kk zz s5 A1_2
  refine vh_call 3 rfl (by kernel_rfl) (want_none rfl) (ex_call rfl (by simp only [List.map_toArray, List.map_cons, List.map_nil, (ev s7 rfl), evc] <;> rfl) rfl) (rnumber_any N b l (sI mxI l s) v1 hR2) rfl hz (by decide) ?_
  rintro e v2 ⟨rfl, hR3, hu2⟩
  refine ⟨_, rfl, (hSn1.trans hu2), fun A1_4 zz kk s8 => ?_⟩
  have B1_2 := B1_1.ub hu2 hqb
  have B2_2 := B2_1.ub hu2 hqb2
  have hv2 := hv1.trans hu2
  have hSn2 := hSn1.trans hu2
  replace s1 := kt kk s1
  replace s2 := kt kk s2
  replace s6 := kt kk s6
  replace hz := zz
  clear kk zz s7 A1_3
  refine vh_take 4 true (.int .i64 (rI mxI l s : Int)) rfl (by kernel_rfl) (by kernel_rfl) (by kernel_rfl) (want_none rfl) (fun hc v hv => ex_assign rfl (ev s6 rfl)) rfl hz (by decide) hSn2 (fun A1_5 zz kk s3 => ?_)
  replace s1 := kt kk s1
  replace s2 := kt kk s2
  replace s8 := kt kk s8
  replace hz := zz
  clear kk zz s6 A1_4
  refine vh_take 5 true (.int .i64 (rI mxI l (sI mxI l s) : Int)) rfl (by kernel_rfl) (by kernel_rfl) (by kernel_rfl) (want_none rfl) (fun hc v hv => ex_assign rfl (ev s8 rfl)) rfl hz (by decide) hSn2 (fun A1_6 zz kk s4 => ?_)
  replace s1 := kt kk s1
  replace s2 := kt kk s2
  replace s3 := kt kk s3
  replace hz := zz
  clear kk zz s8 A1_5
  refine vh_done (by kernel_rfl) ?_
  go_upto_region 2 with fail
  refine wp_region_lit ?_
  refine vt _ (ex_move rfl (ev s3 rfl)) hz (fun A2_1 zz kk s9 => ?_)
  replace s1 := kt kk s1
  replace s2 := kt kk s2
  replace s3 := kt kk s3
  replace s4 := kt kk s4
  replace hz := zz
  clear kk zz
  refine vt _ (ex_move rfl (ev s4 rfl)) hz (fun A2_2 zz kk s10 => ?_)
  replace s1 := kt kk s1
  replace s2 := kt kk s2
  replace s3 := kt kk s3
  replace s4 := kt kk s4
  replace s9 := kt kk s9
  replace hz := zz
  clear kk zz A2_1
  refine vt (.pointer (some ⟨w.heap.size, 0, none⟩)) (ex_fa rfl (ev s1 rfl) (by go_simp)) hz (fun A2_3 zz kk s11 => ?_)
  replace s1 := kt kk s1
  replace s2 := kt kk s2
  replace s3 := kt kk s3
  replace s4 := kt kk s4
  replace s9 := kt kk s9
  replace s10 := kt kk s10
  replace hz := zz
  clear kk zz A2_2
  refine vt (.pointer (some ⟨b, 0, none⟩)) (ex_ld rfl (ev s11 rfl) (ldRp (B1_2.cell 0 _ rfl))) hz (fun A2_4 zz kk s12 => ?_)
  replace s1 := kt kk s1
  replace s2 := kt kk s2
  replace s3 := kt kk s3
  replace s4 := kt kk s4
  replace s9 := kt kk s9
  replace s10 := kt kk s10
  replace hz := zz
  clear kk zz s11 A2_3
  refine vcallP (want_none rfl) (ex_call rfl (by simp only [List.map_toArray, List.map_cons, List.map_nil, (ev s12 rfl), evc] <;> rfl) rfl) (rd_T N b l (sI mxI l (sI mxI l s)) v2 hR3) rfl hz (by decide) ?_
  rintro e v3 ⟨rfl, hR4, hu3⟩
  refine ⟨_, rfl, fun A2_5 zz kk s13 => ?_⟩
  have B1_3 := B1_2.ub hu3 hqb
  have B2_3 := B2_2.ub hu3 hqb2
  have hv3 := hv2.trans hu3
  have hSn3 := hSn2.trans hu3
  replace s1 := kt kk s1
  replace s2 := kt kk s2
  replace s3 := kt kk s3
  replace s4 := kt kk s4
  replace s9 := kt kk s9
  replace s10 := kt kk s10
  replace hz := zz
  clear kk zz s12 A2_4
  refine vt (.agg #[.int .i64 (rI mxI l s : Int), .int .i64 (rI mxI l (sI mxI l s) : Int), .string (rT l (sI mxI l (sI mxI l s)))]) (ex_buildP rfl (by simp only [List.map_toArray, List.map_cons, List.map_nil, (ev s9 rfl), (ev s10 rfl), (ev s13 rfl)] <;> rfl) (bdRs _ _ _ _)) hz (fun A2_6 zz kk s14 => ?_)
  replace s1 := kt kk s1
  replace s2 := kt kk s2
  replace s3 := kt kk s3
  replace s4 := kt kk s4
  replace hz := zz
  clear kk zz s9 s10 s13 A2_5
  refine vs (sets v3 (w.heap.size + 1) 0 [.int .i64 (rI mxI l s : Int), .int .i64 (rI mxI l (sI mxI l s) : Int), .string (rT l (sI mxI l (sI mxI l s)))]) (want_none rfl) (ex_st rfl (ev s2 rfl) (ev s14 rfl) (B2_3.st 30 [.int .i64 (rI mxI l s : Int), .int .i64 (rI mxI l (sI mxI l s) : Int), .string (rT l (sI mxI l (sI mxI l s)))] rfl (by kernel_rfl) (by kernel_rfl))) rfl ?_
  have BR := B2_3.put [.int .i64 (rI mxI l s : Int), .int .i64 (rI mxI l (sI mxI l s) : Int), .string (rT l (sI mxI l (sI mxI l s)))] (Nat.le_refl _)
  refine wpList_nil ?_
  go_wp2
  exact BR.1.res rfl s2 Tryz.underlying30 rfl (by kernel_rfl) ⟨rfl, hR4.ub BR.2 (fun k hk => by omega), hv3.trans_new BR.2 (by have := hb01.size; omega)⟩
def dsS (l : List Int) (s : Nat × Int) : Nat → Nat × Int
  | 0 => s
  | j + 1 => sD l (dsS l s j)
def esS (l : List Int) (s : Nat × Int) : Nat → Nat × Int
  | 0 => s
  | j + 1 => sE l (esS l s j)
def dsL (l : List Int) (s : Nat × Int) (n : Nat) : List (Int × Int) := (List.range n).map fun i => rD l (dsS l s i)
def esL (l : List Int) (s : Nat × Int) (n : Nat) : List En := (List.range n).map fun i => rE l (esS l s i)
def dsR (l : List Int) (s : Nat × Int) (n j : Nat) : List (Int × Int) := dsL l s j ++ List.replicate (n - j) (0, 0)
def esR (l : List Int) (s : Nat × Int) (n j : Nat) : List En := esL l s j ++ List.replicate (n - j) ⟨0, 0, ⟨0, 0, ByteArray.empty⟩⟩
theorem dsR_len {l : List Int} {s : Nat × Int} {n j : Nat} (h : j ≤ n) : (dsR l s n j).length = n := by simp [dsR, dsL]; omega
theorem esR_len {l : List Int} {s : Nat × Int} {n j : Nat} (h : j ≤ n) : (esR l s n j).length = n := by simp [esR, esL]; omega
theorem dsR_all (l : List Int) (s : Nat × Int) (n : Nat) : dsR l s n n = dsL l s n := by simp [dsR]
theorem esR_all (l : List Int) (s : Nat × Int) (n : Nat) : esR l s n n = esL l s n := by simp [esR]
theorem set_rep {α : Type} (A : List α) (z x : α) (m : Nat) (h : 0 < m) : (A ++ List.replicate m z).set A.length x = A ++ [x] ++ List.replicate (m - 1) z := by
  rw [List.set_append_right _ _ (Nat.le_refl _), Nat.sub_self]
  cases m with
  | zero => omega
  | succ k => simp [List.replicate_succ]
theorem dsR_next {l : List Int} {s : Nat × Int} {n j : Nat} (h : j < n) : dsR l s n (j + 1) = (dsR l s n j).set j (rD l (dsS l s j)) := by
  have e : (dsL l s j).length = j := by simp [dsL]
  have := set_rep (dsL l s j) (0, 0) (rD l (dsS l s j)) (n - j) (by omega)
  rw [e] at this
  unfold dsR
  rw [this]
  have e2 : dsL l s (j + 1) = dsL l s j ++ [rD l (dsS l s j)] := by simp [dsL, List.range_succ]
  rw [e2, show n - (j + 1) = n - j - 1 by omega]
theorem esR_next {l : List Int} {s : Nat × Int} {n j : Nat} (h : j < n) : esR l s n (j + 1) = (esR l s n j).set j (rE l (esS l s j)) := by
  have e : (esL l s j).length = j := by simp [esL]
  have := set_rep (esL l s j) ⟨0, 0, ⟨0, 0, ByteArray.empty⟩⟩ (rE l (esS l s j)) (n - j) (by omega)
  rw [e] at this
  unfold esR
  rw [this]
  have e2 : esL l s (j + 1) = esL l s j ++ [rE l (esS l s j)] := by simp [esL, List.range_succ]
  rw [e2, show n - (j + 1) = n - j - 1 by omega]
theorem rI_le (m : Nat) (hm : m ≤ 9223372036854775807) (l : List Int) (s : Nat × Int) : rI (m : Int) l s ≤ m := by
  unfold rI Wi.sel
  split
  · unfold Wi.tcVal
    split
    · rename_i h
      unfold Wi.tcErr at h
      repeat' split at h
      all_goals omega
    · omega
  · omega
theorem vput {ops : Array Oper} {rest : List Oper} {o : Oper} {T : Array Value} {df : List Deferred} {w : World} {Q : Exit → Act → World → Prop} {d n : Nat} {v : Value} (hd : o.dst = some d) (hz : T.size = n) (hn : d < n) (hk : ∀ T' : Array Value, T'.size = n → (∀ i, i ≠ d → T'[i]? = T[i]?) → T'[d]? = some (gw true v) → wpList Tryz.prog ops Q rest ⟨T', df⟩ w) : wpList Tryz.prog ops Q rest ((⟨T, df⟩ : Act).put o.dst v) w := by
  rw [hd]
  exact hk (T.setIfInBounds d v) (by simp [hz]) (fun i hi => at_set_ne _ hi) (at_set _ (by omega))
theorem ixVec0 (q n cv nd : Nat) (h : nd < n) (w : World) : (Instr.indexAt 36 (.slice (some ⟨q, 0, none⟩) n cv) (.int .i64 (nd : Int))).run Tryz.prog w = .ok (.pointer (some ⟨q, nd * 2, none⟩)) w := by
  have := ixVec q 0 n cv nd h w
  rw [Nat.zero_add] at this
  exact this
theorem ixEnt0 (q n cv nd : Nat) (h : nd < n) (w : World) : (Instr.indexAt 34 (.slice (some ⟨q, 0, none⟩) n cv) (.int .i64 (nd : Int))).run Tryz.prog w = .ok (.pointer (some ⟨q, nd * 5, none⟩)) w := by
  have := ixEnt q 0 n cv nd h w
  rw [Nat.zero_add] at this
  exact this
set_option maxRecDepth 100000 in
set_option maxHeartbeats 4000000 in
theorem rvector_any (N b : Nat) (l : List Int) (s : Nat × Int) (w : World) (h : RD N w b l s) : Calls Tryz.prog 134 #[.agg #[.pointer (some ⟨b, 0, none⟩)]] w fun e w' => ∃ v, e = .returned v ∧ OwnY yD w.heap.size w' v (dsL l (sI 7 l s) (rI 7 l s)) ∧ RD N w' b l (dsS l (sI 7 l s) (rI 7 l s)) ∧ UB b w w' := by
  have hlt := h.lt
  have hqb : w.heap.size ≠ b := by omega
  obtain ⟨n0, hn0⟩ : ∃ n0, n0 = rI 7 l s := ⟨_, rfl⟩
  obtain ⟨st1, hst1⟩ : ∃ st1, st1 = sI 7 l s := ⟨_, rfl⟩
  have hn7 : n0 ≤ 7 := by rw [hn0]; exact rI_le 7 (by decide) l s
  rw [← hst1, ← hn0]
  go_enter Tryz.func134, Tryz.ntmps134
  go_upto_region 1 with fail
  obtain ⟨w1, hw1⟩ : ∃ w1, w1 = w.alloc (.cells #[.pointer (some ⟨b, 0, none⟩)] 157) := ⟨_, rfl⟩
  rw [← hw1]
  have hb01 : Below w.heap.size w w1 := by rw [hw1]; exact (Below.refl _ _).alloc (Nat.le_refl _) _
  have B1 : Bx w1 w.heap.size [.pointer (some ⟨b, 0, none⟩)] := by rw [hw1]; exact Bx.new w [.pointer (some ⟨b, 0, none⟩)] _
  have hR1 := h.later hb01
  have hv1 : UB b w w1 := UB.of_below hb01
  have hsz1 := hb01.size
  have hB1lt := B1.lt
  clear hw1
  refine wp_region_lit ?_
  refine vl_gen (fun T => T.size = 21 ∧ T[1]? = some (gw true (.pointer (some ⟨w.heap.size, 0, none⟩)))) ⟨rfl, rfl⟩ (fun T0 ⟨hz, s1⟩ => ?_)
  refine vt (.pointer (some ⟨w.heap.size, 0, none⟩)) (ex_fa rfl (ev s1 rfl) (by go_simp)) hz (fun A1_1 zz kk s5 => ?_)
  replace s1 := kt kk s1
  replace hz := zz
  clear kk zz
  refine vt (.pointer (some ⟨b, 0, none⟩)) (ex_ld rfl (ev s5 rfl) (ldRp (B1.cell 0 _ rfl))) hz (fun A1_2 zz kk s6 => ?_)
  replace s1 := kt kk s1
  replace hz := zz
  clear kk zz s5 A1_1
  refine vcallP (want_none rfl) (ex_call rfl (by simp only [List.map_toArray, List.map_cons, List.map_nil, (ev s6 rfl), evc] <;> rfl) rfl) (rd_C N b 7 (by decide) l s w1 hR1) rfl hz (by decide) ?_
  rw [← hn0, ← hst1]; rintro e w2 ⟨rfl, hR2, hu2⟩
  refine ⟨_, rfl, fun A1_3 zz kk s7 => ?_⟩
  have B2 := B1.ub hu2 hqb
  replace s1 := kt kk s1
  replace hz := zz
  clear kk zz s6 A1_2
  refine makeY kD _ rfl (.tmp 7) rfl n0 (ev s7 rfl) (by unfold maxLen; omega) (by show n0 * _ ≤ _; simp only [yD]; omega) ?_
  intro w3 O3 hb3
  refine vput rfl hz (by decide) (fun A1_4 zz kk s8 => ?_)
  replace s1 := kt kk s1
  replace hz := zz
  clear kk zz s7 A1_3
  refine vt _ (ex_assign rfl (ev s8 rfl)) hz (fun A1_5 zz kk s3 => ?_)
  replace s1 := kt kk s1
  replace hz := zz
  clear kk zz s8 A1_4
  refine wpList_nil ?_
  have hsz2 := hu2.size
  have O3b := O3.low (show w.heap.size ≤ w2.heap.size by omega)
  have hv3 : UB b w w3 := (hv1.trans hu2).trans (UB.of_below hb3)
  have hR3 := hR2.later hb3
  have B3 := B2.later hb3
  go_upto_region 2 with fail
  refine wp_region_lit ?_
  refine vt _ (ex_move rfl (ev s3 rfl)) hz (fun A2_1 zz kk s9 => ?_)
  replace s1 := kt kk s1
  replace s3 := kt kk s3
  replace hz := zz
  clear kk zz
  refine vt (.int .i64 ((n0 : Nat) : Int)) (ex_lenV rfl rfl (ev s9 rfl)) hz (fun A2_2 zz kk s10 => ?_)
  replace s1 := kt kk s1
  replace s3 := kt kk s3
  replace hz := zz
  clear kk zz s9 A2_1
  refine vt (.int .i64 0) (ex_move rfl rfl) hz (fun A2_3 zz kk s11 => ?_)
  replace s1 := kt kk s1
  replace s3 := kt kk s3
  replace s10 := kt kk s10
  replace hz := zz
  clear kk zz A2_2
  refine wpList_nil ?_
  go_upto_region 3 with fail
  refine v_loop 11 n0 (fun j T wr => T.size = 21 ∧ T[1]? = some (gw true (.pointer (some ⟨w.heap.size, 0, none⟩))) ∧ T[3]? = some (gw true (.slice (some ⟨w2.heap.size, 0, none⟩) n0 n0)) ∧ T[10]? = some (gw true (.int .i64 ((n0 : Nat) : Int))) ∧ T[11]? = some (gw true (.int .i64 (j : Int))) ∧ Hid (RD N wr b l (dsS l st1 j) ∧ OwnY yD w.heap.size wr (.slice (some ⟨w2.heap.size, 0, none⟩) n0 n0) (dsR l st1 n0 j) ∧ UB b w wr ∧ Bx wr w.heap.size [.pointer (some ⟨b, 0, none⟩)])) (fun j T w h => h.2.2.2.2.1) ⟨hz, s1, s3, s10, s11, hR3, O3b, hv3, B3⟩ ?_
  clear hz s1 s3 s10 s11
  intro j R0 wr hj hh
  obtain ⟨hz, s1, s3, s10, s11, HI⟩ := hh
  have hwr := HI.out.2.2.1.size
  go_upto_region 3 with fail
  refine wp_region_lit ?_
  refine vt (.bool (decide ((j : Int) < (n0 : Int)))) (ex_bin rfl (ev s11 rfl) (ev s10 rfl) (lssC _ _ _ _ _)) hz (fun A3_1 zz kk s12 => ?_)
  replace s1 := kt kk s1
  replace s3 := kt kk s3
  replace s10 := kt kk s10
  replace s11 := kt kk s11
  replace hz := zz
  clear kk zz
  refine wpList_nil ?_
  go_upto_region 4 with fail
  cases e3 : decide ((j : Int) < (n0 : Int))
  · refine wp_cond_false ((ev s12 rfl).trans (congrArg Value.bool e3)) ?_
    have hjl : j = n0 := by have := of_decide_eq_false e3; omega
    have hI := HI.out
    rw [hjl, dsR_all] at hI
    clear e3 s12
    go_upto_region 7 with fail
    refine wp_region_lit ?_
    refine vt _ (ex_move rfl (ev s3 rfl)) hz (fun A7_1 zz kk s20 => ?_)
    replace hz := zz
    clear kk zz s3
    refine vt _ (ex_assign rfl (ev s20 rfl)) hz (fun A7_2 zz kk s2 => ?_)
    replace hz := zz
    clear kk zz s20 A7_1
    refine wpList_nil ?_
    go_wp2
    exact bodyPost_ret1 rfl s2 ⟨_, rfl, hI.2.1, hI.1, hI.2.2.1⟩
  refine wp_cond_true ((ev s12 rfl).trans (congrArg Value.bool e3)) ?_
  have hlt2 : j < n0 := by have := of_decide_eq_true e3; omega
  clear e3 s12
  go_upto_region 4 with fail
  refine wp_region_lit ?_
  refine vt _ (ex_move rfl (ev s11 rfl)) hz (fun A4_1 zz kk s13 => ?_)
  replace s1 := kt kk s1
  replace s3 := kt kk s3
  replace s10 := kt kk s10
  replace s11 := kt kk s11
  replace hz := zz
  clear kk zz
  refine vt _ (ex_assign rfl (ev s13 rfl)) hz (fun A4_2 zz kk s4 => ?_)
  replace s1 := kt kk s1
  replace s3 := kt kk s3
  replace s10 := kt kk s10
  replace s11 := kt kk s11
  replace hz := zz
  clear kk zz s13 A4_1
  refine wpList_nil ?_
  go_upto_region 5 with fail
  refine wp_region_lit ?_
  refine vt _ (ex_move rfl (ev s3 rfl)) hz (fun A5_1 zz kk s14 => ?_)
  replace s1 := kt kk s1
  replace s3 := kt kk s3
  replace s4 := kt kk s4
  replace s10 := kt kk s10
  replace s11 := kt kk s11
  replace hz := zz
  clear kk zz
  refine vt _ (ex_move rfl (ev s4 rfl)) hz (fun A5_2 zz kk s15 => ?_)
  replace s1 := kt kk s1
  replace s3 := kt kk s3
  replace s4 := kt kk s4
  replace s10 := kt kk s10
  replace s11 := kt kk s11
  replace s14 := kt kk s14
  replace hz := zz
  clear kk zz A5_1
  refine vt (.agg #[.pointer (some ⟨b, 0, none⟩)]) (ex_ld rfl (ev s1 rfl) (ldRd (HI.out.2.2.2.cell 0 _ rfl))) hz (fun A5_3 zz kk s16 => ?_)
  replace s1 := kt kk s1
  replace s3 := kt kk s3
  replace s4 := kt kk s4
  replace s10 := kt kk s10
  replace s11 := kt kk s11
  replace s14 := kt kk s14
  replace s15 := kt kk s15
  replace hz := zz
  clear kk zz A5_2
  refine vcallP (want_none rfl) (ex_call rfl (by simp only [List.map_toArray, List.map_cons, List.map_nil, (ev s16 rfl), evc] <;> rfl) rfl) (rdraw_any N b l (dsS l st1 j) wr HI.out.1) rfl hz (by decide) ?_
  rintro e w5 ⟨rfl, hR5, hu5⟩
  refine ⟨_, rfl, fun A5_4 zz kk s17 => ?_⟩
  have B5 := HI.out.2.2.2.ub hu5 hqb
  have O5 := HI.out.2.1.upd1 hu5 (fun g hg => by simp [Value.ownBlock] at hg; omega)
  have hv5 := HI.out.2.2.1.trans hu5
  have hs5 := hu5.size
  replace s1 := kt kk s1
  replace s3 := kt kk s3
  replace s4 := kt kk s4
  replace s10 := kt kk s10
  replace s11 := kt kk s11
  replace s14 := kt kk s14
  replace s15 := kt kk s15
  replace hz := zz
  clear kk zz s16 A5_3
  refine vt (.pointer (some ⟨w2.heap.size, j * 2, none⟩)) (ex_ix rfl (ev s14 rfl) (ev s15 rfl) (ixVec0 _ _ _ _ hlt2 _)) hz (fun A5_5 zz kk s18 => ?_)
  replace s1 := kt kk s1
  replace s3 := kt kk s3
  replace s4 := kt kk s4
  replace s10 := kt kk s10
  replace s11 := kt kk s11
  replace s17 := kt kk s17
  replace hz := zz
  clear kk zz s14 s15 A5_4
  obtain ⟨d0, hd0⟩ : ∃ d0, (dsR l st1 n0 j)[j]? = some d0 := ⟨_, List.getElem?_eq_getElem (by rw [dsR_len hj]; exact hlt2)⟩
  refine storeY kD _ rfl _ (.tmp 18) (.tmp 17) rfl w.heap.size w2.heap.size n0 n0 _ j 0 d0 (rD l (dsS l st1 j)) _ (ev s18 rfl) (ev s17 rfl) hd0 (by kernel_rfl) (by exact (by decide : 2 ≤ 2)) rfl O5 ?_
  intro w6 O6 u6 z6
  change wpList _ _ _ _ ⟨_, []⟩ w6
  have hR6 := hR5.ub u6 (fun k hk => by omega)
  have B6 := B5.ub u6 (by omega)
  have hv6 := hv5.trans_new u6 (by omega)
  refine wpList_nil ?_
  go_upto_region 6 with fail
  refine wp_region_lit ?_
  refine vt (.int .i64 ((j + 1 : Nat) : Int)) (ex_bin rfl (ev s11 rfl) rfl (addJ j (by omega) _ _ _)) hz (fun A6_1 zz kk s19 => ?_)
  replace s1 := kt kk s1
  replace s3 := kt kk s3
  replace s10 := kt kk s10
  replace s11 := kt kk s11
  replace hz := zz
  clear kk zz s4 s17 s18
  refine vt _ (ex_move rfl (ev s19 rfl)) hz (fun A6_2 zz kk s11x => ?_)
  replace s1 := kt kk s1
  replace s3 := kt kk s3
  replace s10 := kt kk s10
  clear kk hz s19 s11
  have hz := zz
  have s11 := s11x
  clear zz s11x A6_1
  refine wpList_nil ?_
  exact ⟨_, rfl, by omega, hz, s1, s3, s10, s11, hR6, by rw [dsR_next hlt2]; exact O6, hv6, B6⟩
set_option maxRecDepth 100000 in
set_option maxHeartbeats 4000000 in
theorem rlog_any (N b : Nat) (l : List Int) (s : Nat × Int) (w : World) (h : RD N w b l s) : Calls Tryz.prog 133 #[.agg #[.pointer (some ⟨b, 0, none⟩)]] w fun e w' => ∃ v, e = .returned v ∧ OwnY yE w.heap.size w' v (esL l (sI 256 l s) (rI 256 l s)) ∧ RD N w' b l (esS l (sI 256 l s) (rI 256 l s)) ∧ UB b w w' := by
  have hlt := h.lt
  have hqb : w.heap.size ≠ b := by omega
  obtain ⟨n0, hn0⟩ : ∃ n0, n0 = rI 256 l s := ⟨_, rfl⟩
  obtain ⟨st1, hst1⟩ : ∃ st1, st1 = sI 256 l s := ⟨_, rfl⟩
  have hn7 : n0 ≤ 256 := by rw [hn0]; exact rI_le 256 (by decide) l s
  rw [← hst1, ← hn0]
  go_enter Tryz.func133, Tryz.ntmps133
  go_upto_region 1 with fail
  obtain ⟨w1, hw1⟩ : ∃ w1, w1 = w.alloc (.cells #[.pointer (some ⟨b, 0, none⟩)] 157) := ⟨_, rfl⟩
  rw [← hw1]
  have hb01 : Below w.heap.size w w1 := by rw [hw1]; exact (Below.refl _ _).alloc (Nat.le_refl _) _
  have B1 : Bx w1 w.heap.size [.pointer (some ⟨b, 0, none⟩)] := by rw [hw1]; exact Bx.new w [.pointer (some ⟨b, 0, none⟩)] _
  have hR1 := h.later hb01
  have hv1 : UB b w w1 := UB.of_below hb01
  have hsz1 := hb01.size
  have hB1lt := B1.lt
  clear hw1
  refine wp_region_lit ?_
  refine vl_gen (fun T => T.size = 27 ∧ T[1]? = some (gw true (.pointer (some ⟨w.heap.size, 0, none⟩)))) ⟨rfl, rfl⟩ (fun T0 ⟨hz, s1⟩ => ?_)
  refine vt (.pointer (some ⟨w.heap.size, 0, none⟩)) (ex_fa rfl (ev s1 rfl) (by go_simp)) hz (fun A1_1 zz kk s5 => ?_)
  replace s1 := kt kk s1
  replace hz := zz
  clear kk zz
  refine vt (.pointer (some ⟨b, 0, none⟩)) (ex_ld rfl (ev s5 rfl) (ldRp (B1.cell 0 _ rfl))) hz (fun A1_2 zz kk s6 => ?_)
  replace s1 := kt kk s1
  replace hz := zz
  clear kk zz s5 A1_1
  refine vcallP (want_none rfl) (ex_call rfl (by simp only [List.map_toArray, List.map_cons, List.map_nil, (ev s6 rfl), evc] <;> rfl) rfl) (rd_C N b 256 (by decide) l s w1 hR1) rfl hz (by decide) ?_
  rw [← hn0, ← hst1]; rintro e w2 ⟨rfl, hR2, hu2⟩
  refine ⟨_, rfl, fun A1_3 zz kk s7 => ?_⟩
  have B2 := B1.ub hu2 hqb
  replace s1 := kt kk s1
  replace hz := zz
  clear kk zz s6 A1_2
  refine makeY kE _ rfl (.tmp 7) rfl n0 (ev s7 rfl) (by unfold maxLen; omega) (by show n0 * _ ≤ _; simp only [yE]; omega) ?_
  intro w3 O3 hb3
  refine vput rfl hz (by decide) (fun A1_4 zz kk s8 => ?_)
  replace s1 := kt kk s1
  replace hz := zz
  clear kk zz s7 A1_3
  refine vt _ (ex_assign rfl (ev s8 rfl)) hz (fun A1_5 zz kk s3 => ?_)
  replace s1 := kt kk s1
  replace hz := zz
  clear kk zz s8 A1_4
  refine wpList_nil ?_
  have hsz2 := hu2.size
  have O3b := O3.low (show w.heap.size ≤ w2.heap.size by omega)
  have hv3 : UB b w w3 := (hv1.trans hu2).trans (UB.of_below hb3)
  have hR3 := hR2.later hb3
  have B3 := B2.later hb3
  go_upto_region 2 with fail
  refine wp_region_lit ?_
  refine vt _ (ex_move rfl (ev s3 rfl)) hz (fun A2_1 zz kk s9 => ?_)
  replace s1 := kt kk s1
  replace s3 := kt kk s3
  replace hz := zz
  clear kk zz
  refine vt (.int .i64 ((n0 : Nat) : Int)) (ex_lenE rfl rfl (ev s9 rfl)) hz (fun A2_2 zz kk s10 => ?_)
  replace s1 := kt kk s1
  replace s3 := kt kk s3
  replace hz := zz
  clear kk zz s9 A2_1
  refine vt (.int .i64 0) (ex_move rfl rfl) hz (fun A2_3 zz kk s11 => ?_)
  replace s1 := kt kk s1
  replace s3 := kt kk s3
  replace s10 := kt kk s10
  replace hz := zz
  clear kk zz A2_2
  refine wpList_nil ?_
  go_upto_region 3 with fail
  refine v_loop 11 n0 (fun j T wr => T.size = 27 ∧ T[1]? = some (gw true (.pointer (some ⟨w.heap.size, 0, none⟩))) ∧ T[3]? = some (gw true (.slice (some ⟨w2.heap.size, 0, none⟩) n0 n0)) ∧ T[10]? = some (gw true (.int .i64 ((n0 : Nat) : Int))) ∧ T[11]? = some (gw true (.int .i64 (j : Int))) ∧ Hid (RD N wr b l (esS l st1 j) ∧ OwnY yE w.heap.size wr (.slice (some ⟨w2.heap.size, 0, none⟩) n0 n0) (esR l st1 n0 j) ∧ UB b w wr ∧ Bx wr w.heap.size [.pointer (some ⟨b, 0, none⟩)])) (fun j T w h => h.2.2.2.2.1) ⟨hz, s1, s3, s10, s11, hR3, O3b, hv3, B3⟩ ?_
  clear hz s1 s3 s10 s11
  intro j R0 wr hj hh
  obtain ⟨hz, s1, s3, s10, s11, HI⟩ := hh
  have hwr := HI.out.2.2.1.size
  go_upto_region 3 with fail
  refine wp_region_lit ?_
  refine vt (.bool (decide ((j : Int) < (n0 : Int)))) (ex_bin rfl (ev s11 rfl) (ev s10 rfl) (lssC _ _ _ _ _)) hz (fun A3_1 zz kk s12 => ?_)
  replace s1 := kt kk s1
  replace s3 := kt kk s3
  replace s10 := kt kk s10
  replace s11 := kt kk s11
  replace hz := zz
  clear kk zz
  refine wpList_nil ?_
  go_upto_region 4 with fail
  cases e3 : decide ((j : Int) < (n0 : Int))
  · refine wp_cond_false ((ev s12 rfl).trans (congrArg Value.bool e3)) ?_
    have hjl : j = n0 := by have := of_decide_eq_false e3; omega
    have hI := HI.out
    rw [hjl, esR_all] at hI
    clear e3 s12
    go_upto_region 8 with fail
    refine wp_region_lit ?_
    refine vt _ (ex_move rfl (ev s3 rfl)) hz (fun A8_1 zz kk s26 => ?_)
    replace hz := zz
    clear kk zz s3
    refine vt _ (ex_assign rfl (ev s26 rfl)) hz (fun A8_2 zz kk s2 => ?_)
    replace hz := zz
    clear kk zz s26 A8_1
    refine wpList_nil ?_
    go_wp2
    exact bodyPost_ret1 rfl s2 ⟨_, rfl, hI.2.1, hI.1, hI.2.2.1⟩
  refine wp_cond_true ((ev s12 rfl).trans (congrArg Value.bool e3)) ?_
  have hlt2 : j < n0 := by have := of_decide_eq_true e3; omega
  clear e3 s12
  go_upto_region 4 with fail
  refine wp_region_lit ?_
  refine vt _ (ex_move rfl (ev s11 rfl)) hz (fun A4_1 zz kk s13 => ?_)
  replace s1 := kt kk s1
  replace s3 := kt kk s3
  replace s10 := kt kk s10
  replace s11 := kt kk s11
  replace hz := zz
  clear kk zz
  refine vt _ (ex_assign rfl (ev s13 rfl)) hz (fun A4_2 zz kk s4 => ?_)
  replace s1 := kt kk s1
  replace s3 := kt kk s3
  replace s10 := kt kk s10
  replace s11 := kt kk s11
  replace hz := zz
  clear kk zz s13 A4_1
  refine wpList_nil ?_
  go_upto_region 5 with fail
  refine wp_region_lit ?_
  refine vt _ (ex_move rfl (ev s3 rfl)) hz (fun A5_1 zz kk s14 => ?_)
  replace s1 := kt kk s1
  replace s3 := kt kk s3
  replace s4 := kt kk s4
  replace s10 := kt kk s10
  replace s11 := kt kk s11
  replace hz := zz
  clear kk zz
  refine vt _ (ex_move rfl (ev s4 rfl)) hz (fun A5_2 zz kk s15 => ?_)
  replace s1 := kt kk s1
  replace s3 := kt kk s3
  replace s4 := kt kk s4
  replace s10 := kt kk s10
  replace s11 := kt kk s11
  replace s14 := kt kk s14
  replace hz := zz
  clear kk zz A5_1
  refine vt (.agg #[.pointer (some ⟨b, 0, none⟩)]) (ex_ld rfl (ev s1 rfl) (ldRd (HI.out.2.2.2.cell 0 _ rfl))) hz (fun A5_3 zz kk s16 => ?_)
  replace s1 := kt kk s1
  replace s3 := kt kk s3
  replace s4 := kt kk s4
  replace s10 := kt kk s10
  replace s11 := kt kk s11
  replace s14 := kt kk s14
  replace s15 := kt kk s15
  replace hz := zz
  clear kk zz A5_2
  refine vcallP (want_none rfl) (ex_call rfl (by simp only [List.map_toArray, List.map_cons, List.map_nil, (ev s16 rfl), evc] <;> rfl) rfl) (rname_any N b l (esS l st1 j) wr HI.out.1) rfl hz (by decide) ?_
  rintro e w5 ⟨rfl, hR5, hu5⟩
  refine ⟨_, rfl, fun A5_4 zz kk s17 => ?_⟩
  have B5 := HI.out.2.2.2.ub hu5 hqb
  have O5 := HI.out.2.1.upd1 hu5 (fun g hg => by simp [Value.ownBlock] at hg; omega)
  have hv5 := HI.out.2.2.1.trans hu5
  have hs5 := hu5.size
  replace s1 := kt kk s1
  replace s3 := kt kk s3
  replace s4 := kt kk s4
  replace s10 := kt kk s10
  replace s11 := kt kk s11
  replace s14 := kt kk s14
  replace s15 := kt kk s15
  replace hz := zz
  clear kk zz s16 A5_3
  refine vt (.pointer (some ⟨w2.heap.size, j * 5, none⟩)) (ex_ix rfl (ev s14 rfl) (ev s15 rfl) (ixEnt0 _ _ _ _ hlt2 _)) hz (fun A5_5 zz kk s18 => ?_)
  replace s1 := kt kk s1
  replace s3 := kt kk s3
  replace s4 := kt kk s4
  replace s10 := kt kk s10
  replace s11 := kt kk s11
  replace s17 := kt kk s17
  replace hz := zz
  clear kk zz s14 s15 A5_4
  obtain ⟨d0, hd0⟩ : ∃ d0, (esR l st1 n0 j)[j]? = some d0 := ⟨_, List.getElem?_eq_getElem (by rw [esR_len hj]; exact hlt2)⟩
  refine storeY kE _ rfl _ (.tmp 18) (.tmp 17) rfl w.heap.size w2.heap.size n0 n0 _ j 0 d0 (⟨(rI mxI l (esS l st1 j) : Int), (rI mxI l (sI mxI l (esS l st1 j)) : Int), ⟨0, 0, ⟨#[]⟩⟩⟩ : En) _ (ev s18 rfl) (ev s17 rfl) hd0 (by kernel_rfl) (by exact (by decide : 5 ≤ 5)) rfl O5 ?_
  intro w6 O6 u6 z6
  change wpList _ _ _ _ ⟨_, []⟩ w6
  have hR6 := hR5.ub u6 (fun k hk => by omega)
  have B6 := B5.ub u6 (by omega)
  have hv6 := hv5.trans_new u6 (by omega)
  refine wpList_nil ?_
  go_upto_region 6 with fail
  refine wp_region_lit ?_
  refine vt _ (ex_move rfl (ev s3 rfl)) hz (fun A6_1 zz kk s19 => ?_)
  replace s1 := kt kk s1
  replace s3 := kt kk s3
  replace s4 := kt kk s4
  replace s10 := kt kk s10
  replace s11 := kt kk s11
  replace hz := zz
  clear kk zz s17 s18
  refine vt _ (ex_move rfl (ev s4 rfl)) hz (fun A6_2 zz kk s20 => ?_)
  replace s1 := kt kk s1
  replace s3 := kt kk s3
  replace s10 := kt kk s10
  replace s11 := kt kk s11
  replace s19 := kt kk s19
  replace hz := zz
  clear kk zz s4 A6_1
  refine vt (.agg #[.pointer (some ⟨b, 0, none⟩)]) (ex_ld rfl (ev s1 rfl) (ldRd (B6.cell 0 _ rfl))) hz (fun A6_3 zz kk s21 => ?_)
  replace s1 := kt kk s1
  replace s3 := kt kk s3
  replace s10 := kt kk s10
  replace s11 := kt kk s11
  replace s19 := kt kk s19
  replace s20 := kt kk s20
  replace hz := zz
  clear kk zz A6_2
  refine vcallP (want_none rfl) (ex_call rfl (by simp only [List.map_toArray, List.map_cons, List.map_nil, (ev s21 rfl), evc] <;> rfl) rfl) (rop_any N b l (s2 l (esS l st1 j)) w6 hR6) rfl hz (by decide) ?_
  rintro e w7 ⟨rfl, hR7, hu7⟩
  refine ⟨_, rfl, fun A6_4 zz kk s22 => ?_⟩
  have B7 := B6.ub hu7 hqb
  have O7 := O6.upd1 hu7 (fun g hg => by simp [Value.ownBlock] at hg; omega)
  have hv7 := hv6.trans hu7
  have hs7 := hu7.size
  replace s1 := kt kk s1
  replace s3 := kt kk s3
  replace s10 := kt kk s10
  replace s11 := kt kk s11
  replace s19 := kt kk s19
  replace s20 := kt kk s20
  replace hz := zz
  clear kk zz s21 A6_3
  refine vt (.pointer (some ⟨w2.heap.size, j * 5, none⟩)) (ex_ix rfl (ev s19 rfl) (ev s20 rfl) (ixEnt0 _ _ _ _ hlt2 _)) hz (fun A6_5 zz kk s23 => ?_)
  replace s1 := kt kk s1
  replace s3 := kt kk s3
  replace s10 := kt kk s10
  replace s11 := kt kk s11
  replace s22 := kt kk s22
  replace hz := zz
  clear kk zz s19 s20 A6_4
  refine vt (.pointer (some ⟨w2.heap.size, j * 5 + 2, none⟩)) (ex_fa rfl (ev s23 rfl) (by go_simp)) hz (fun A6_6 zz kk s24 => ?_)
  replace s1 := kt kk s1
  replace s3 := kt kk s3
  replace s10 := kt kk s10
  replace s11 := kt kk s11
  replace s22 := kt kk s22
  replace hz := zz
  clear kk zz s23 A6_5
  refine storeY kE _ rfl _ (.tmp 24) (.tmp 22) rfl w.heap.size w2.heap.size n0 n0 ((esR l st1 n0 j).set j (⟨(rI mxI l (esS l st1 j) : Int), (rI mxI l (sI mxI l (esS l st1 j)) : Int), ⟨0, 0, ⟨#[]⟩⟩⟩ : En)) j 2 (⟨(rI mxI l (esS l st1 j) : Int), (rI mxI l (sI mxI l (esS l st1 j)) : Int), ⟨0, 0, ⟨#[]⟩⟩⟩ : En) (rE l (esS l st1 j)) _ (ev s24 rfl) (ev s22 rfl) (List.getElem?_set_self (by rw [esR_len hj]; exact hlt2)) (by kernel_rfl) (by exact (by decide : 5 ≤ 5)) rfl O7 ?_
  intro w8 O8 u8 z8
  rw [List.set_set] at O8
  change wpList _ _ _ _ ⟨_, []⟩ w8
  have hR8 := hR7.ub u8 (fun k hk => by omega)
  have B8 := B7.ub u8 (by omega)
  have hv8 := hv7.trans_new u8 (by omega)
  refine wpList_nil ?_
  go_upto_region 7 with fail
  refine wp_region_lit ?_
  refine vt (.int .i64 ((j + 1 : Nat) : Int)) (ex_bin rfl (ev s11 rfl) rfl (addJ j (by omega) _ _ _)) hz (fun A7_1 zz kk s25 => ?_)
  replace s1 := kt kk s1
  replace s3 := kt kk s3
  replace s10 := kt kk s10
  replace s11 := kt kk s11
  replace hz := zz
  clear kk zz s22 s24
  refine vt _ (ex_move rfl (ev s25 rfl)) hz (fun A7_2 zz kk s11x => ?_)
  replace s1 := kt kk s1
  replace s3 := kt kk s3
  replace s10 := kt kk s10
  clear kk hz s25 s11
  have hz := zz
  have s11 := s11x
  clear zz s11x A7_1
  refine wpList_nil ?_
  exact ⟨_, rfl, by omega, hz, s1, s3, s10, s11, hR8, by rw [esR_next hlt2]; exact O8, hv8, B8⟩
end Go.Proofs.YtibedokegignhaaGreatDoor
