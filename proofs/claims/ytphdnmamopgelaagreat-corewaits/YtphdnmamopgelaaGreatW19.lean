import Derived.ChangeOld
import Derived.ProofKit
import Derived.OpenShut
import Derived.Deep.SlicePairs
import Derived.SizedLaws
import Derived.Test.YtphdnmamopgelaaGreatW18
set_option maxRecDepth 100000
set_option linter.unusedVariables false
set_option linter.unusedSimpArgs false
namespace Go.Proofs.YtphdnmamopgelaaGreat
open Go.RowKit Go.Maps Go.Shelf
open Classical
theorem v_cut9 {c : Code} {Q : Exit → Act → World → Prop} {T : Array Value} {w : World} (J : Array Value → World → Prop) (h : c.wp Tryz.prog (Exit.then (fun a w' => ∃ T', a = ⟨T', []⟩ ∧ J T' w') Q) ⟨T, []⟩ w) (hk : ∀ T' w', J T' w' → Q .normal ⟨T', []⟩ w') : c.wp Tryz.prog Q ⟨T, []⟩ w := by
  refine Code.wp_mono (fun e a' w' h => ?_) h
  cases e with
  | normal =>
    obtain ⟨T', rfl, hJ⟩ := h
    exact hk T' w' hJ
  | _ => exact h
theorem vh_two9 {ops : Array Oper} {o o2 : Oper} {T : Array Value} {df : List Deferred} {w : World} {Q : Exit → Act → World → Prop} {S : World → Prop} {fuel d d2 n : Nat} {listed : Array Bool} (i j : Nat) {fid : FuncId} {args : Array Value} {R : Ending → World → Prop} (hr : Region.ready .any ops listed = [i, j]) (hi : ops[i]? = some o) (hj : ops[j]? = some o2)
    (hw : Region.wanted o (yielded ops T) = true) (he : (execOp (⟨T, df⟩ : Act).eval o).run Tryz.prog w = .ok (.enter fid args) w) (hc : Calls Tryz.prog fid args w R) (hd : o.dst = some d) (hz : T.size = n) (hn : d < n)
    (hk : ∀ (e : Ending) (w' : World), R e w' → ∃ V, e = .returned V ∧ S w' ∧ ∀ T' : Array Value, T'.size = n → (∀ j, j ≠ d → T'[j]? = T[j]?) → T'[d]? = some (gw true V) → VH ops Q S fuel (listed.setIfInBounds i true) ⟨T', df⟩ w')
    (V : Value) (w2 : World) (hw2 : Region.wanted o2 (yielded ops T) = true) (he2 : (execOp (⟨T, df⟩ : Act).eval o2).run Tryz.prog w = .ok (.value V) w2) (hd2 : o2.dst = some d2) (hn2 : d2 < n) (hS2 : S w2)
    (hk2 : ∀ T' : Array Value, T'.size = n → (∀ j, j ≠ d2 → T'[j]? = T[j]?) → T'[d2]? = some (gw true V) → VH ops Q S fuel (listed.setIfInBounds j true) ⟨T', df⟩ w2) : VH ops Q S (fuel + 1) listed ⟨T, df⟩ w := by
  refine ⟨wpAnyH_all hr (by simp) (fun k hkm => ?_)⟩
  have hkm : k = i ∨ k = j := by simpa using hkm
  rcases hkm with rfl | rfl
  · unfold wpOp
    rw [hi]
    simp only [hw, if_true]
    refine .inl ?_
    unfold Oper.wp
    rw [he, Oper.upon_enter]
    refine hc.mono ?_
    intro e w' hR
    obtain ⟨V, rfl, hS, hk'⟩ := hk e w' hR
    refine ⟨hS, ?_⟩
    rw [hd]
    exact (hk' (T.setIfInBounds d V) (by simp [hz]) (fun i hi => at_set_ne _ hi) (at_set _ (by omega))).out
  · unfold wpOp
    rw [hj]
    simp only [hw2, if_true]
    refine .inl ?_
    unfold Oper.wp
    rw [he2, Oper.upon_value]
    refine ⟨hS2, ?_⟩
    rw [hd2]
    exact (hk2 (T.setIfInBounds d2 V) (by simp [hz]) (fun i hi => at_set_ne _ hi) (at_set _ (by omega))).out
theorem alG9 (w : World) : (Instr.alloc 40 true (.tuple #[])).run Tryz.prog w = .ok (.pointer (some ⟨w.heap.size, 0, none⟩)) (w.alloc (.cells #[.slice none 0 0, .slice none 0 0, .slice none 0 0, .slice none 0 0, .slice none 0 0, .slice none 0 0, .slice none 0 0, .slice none 0 0, .slice none 0 0, .slice none 0 0] 40)) := by
  go_simp
  first | done | rfl
theorem eqlB9 (x y : Operand) (a b : Bool) (h : a = b) (w : World) : (do eqGuard .eql 4 x y (.bool a) (.bool b); binOp .eql 4 (.bool a) (.bool b) : Sem Value).run Tryz.prog w = .ok (.bool true) w := by
  subst h
  cases a <;> go_simp <;> first | done | rfl
theorem Wt8.in9 {B q : Nat} {c : Cg} {s t : Sta} {b : Bool} {w w' : World} (h : Wt8 B c s t b w) (hi : t.In w) (U : Upd (fun k => k = q) w w') (hq : q < B) : t.In w' := by
  rcases h with ⟨_, rfl, _⟩ | ⟨_, t0, k, lo, rfl, _⟩
  · exact zS8_in _
  · exact (k.set8 U hq lo).inn.idle8
set_option maxHeartbeats 1000000 in
theorem num9 (x : Int) (w : World)  : Calls Tryz.prog 7 #[.int .i64 x] w fun e w' => e = .returned (.int .i64 x) ∧ Below w.heap.size w w' := by
  go_enter Tryz.func7, Tryz.ntmps7
  go_upto_region 0 with fail
  refine wp_region_lit ?_
  refine vl_gen (fun T => T.size = 4 ∧ T[0]? = some (gw true (.int .i64 x))) ⟨rfl, rfl⟩ (fun Z0 ⟨hz, s0⟩ => ?_)
  have hB : Below w.heap.size w w := Below.refl _ _
  have hv0 : Below w.heap.size w w := Below.refl _ _
  refine vt (.int .i64 0) (ex_assign rfl rfl) hz (fun Ya zz kk s2 => ?_)
  replace s0 := ku s0
  replace hz := zz
  clear kk zz
  refine wpList_nil ?_
  go_upto_region 1 with fail
  refine wp_region_lit ?_
  refine vt _ (ex_move rfl (ev s0 rfl)) hz (fun Yb zz kk s3 => ?_)
  replace s2 := ku s2
  replace hz := zz
  clear kk zz s0
  refine vt _ (ex_assign rfl (ev s3 rfl)) hz (fun Yc zz kk s2x => ?_)
  clear kk hz s3 s2
  have hz := zz
  have s2 := s2x
  clear zz s2x Yb
  refine wpList_nil ?_
  go_wp2
  refine bodyPost_ret (results_tmp rfl _ _ _) rfl ⟨?_, hB.trans (hv0.mono (by omega))⟩
  rw [getD_of s2]
  rfl
set_option maxHeartbeats 1000000 in
theorem waits9 (c : Cg) (s : Sta) (w : World) (hI : s.In w) (hF : s.Fit) (hb1 : ∀ x ∈ s.B, x.s.D.length * 48 ≤ 140737488351232) (hb2 : ∀ x ∈ s.N, x.s.D.length * 48 ≤ 140737488351232) : Calls Tryz.prog 3 #[c.val, s.val] w fun e w' => e = .returned (.bool true) ∧ Below w.heap.size w w' := by
  go_enter Tryz.func3, Tryz.ntmps3
  go_upto_region 0 with fail
  refine wp_region_lit ?_
  refine vl_gen (fun T => T.size = 44 ∧ T[0]? = some (gw true (c.val)) ∧ T[1]? = some (gw true (s.val))) ⟨rfl, rfl, rfl⟩ (fun Z0 ⟨hz, s0, s1⟩ => ?_)
  obtain ⟨w1, hw1⟩ : ∃ y, y = w.alloc (.cells c.cs.toArray 23) := ⟨_, rfl⟩
  have hb : Below w.heap.size w w1 := by rw [hw1]; exact (Below.refl _ _).alloc (Nat.le_refl _) _
  have hs1 : w1.heap.size = w.heap.size + 1 := by rw [hw1]; simp
  have HC : CB7 w1 (w.heap.size) c := by rw [hw1]; exact BX7.new _ _ _
  refine vw (.pointer (some ⟨w.heap.size, 0, none⟩)) w1 (want_none rfl) (ex_box8 rfl (ev s0 rfl) (by rw [hw1]; exact bxC7 _ _)) rfl hz (by decide) (fun Z1 zz kk s2x => ?_)
  replace s1 := ku s1
  clear kk hz s0 hw1
  have hz := zz
  have s2 := s2x
  clear zz s2x
  have hB := hb
  clear hb
  obtain ⟨w2, hw2⟩ : ∃ y, y = w1.alloc (.cells s.cs.toArray 33) := ⟨_, rfl⟩
  have hb : Below w1.heap.size w1 w2 := by rw [hw2]; exact (Below.refl _ _).alloc (Nat.le_refl _) _
  have hs2 : w2.heap.size = w.heap.size + 2 := by rw [hw2]; simp; omega
  have HS : SB7 w2 (w.heap.size + 1) s := by rw [hw2, ← hs1]; exact BX7.new _ _ _
  refine vw (.pointer (some ⟨w.heap.size + 1, 0, none⟩)) w2 (want_none rfl) (ex_box8 rfl (ev s1 rfl) (by rw [hw2, ← hs1]; exact bxS7 _ _)) rfl hz (by decide) (fun Z2 zz kk s3x => ?_)
  replace s2 := ku s2
  clear kk hz s1 hw2
  have hz := zz
  have s3 := s3x
  clear zz s3x
  have hB := hB.trans (hb.mono (by omega))
  have HC := HC.bel hb
  clear hb
  have hv0 : Below w2.heap.size w2 w2 := Below.refl _ _
  refine vt (.bool false) (ex_assign rfl rfl) hz (fun Ya zz kk s4 => ?_)
  replace s2 := ku s2
  replace s3 := ku s3
  replace hz := zz
  clear kk zz
  clear s4
  refine wpList_nil ?_
  obtain ⟨w3, hw3⟩ : ∃ y, y = w2.alloc (.cells #[.slice none 0 0, .slice none 0 0, .slice none 0 0, .slice none 0 0, .slice none 0 0, .slice none 0 0, .slice none 0 0, .slice none 0 0, .slice none 0 0, .slice none 0 0] 40) := ⟨_, rfl⟩
  have hb : Below w2.heap.size w2 w3 := by rw [hw3]; exact (Below.refl _ _).alloc (Nat.le_refl _) _
  have G3 : GM w3 (w.heap.size + 2) (w.heap.size + 2 + 1) (.slice none 0 0) (.slice none 0 0) (.slice none 0 0) (.slice none 0 0) [] [] [] [] := by rw [hw3, ← hs2]; exact GM.new w2 _
  have hz3 : w3.heap.size = w.heap.size + 3 := by rw [hw3]; simp; omega
  go_upto_region 1 with fail
  refine wp_region_lit ?_
  refine vw (.pointer (some ⟨w.heap.size + 2, 0, none⟩)) w3 (want_none rfl) (ex_al rfl (by rw [hw3, ← hs2]; exact alG9 _)) rfl hz (by decide) (fun Yb zz kk s5 => ?_)
  replace s2 := ku s2
  replace s3 := ku s3
  replace hz := zz
  clear kk zz
  refine wpList_nil ?_
  have hB := hB.trans (hb.mono (by omega))
  have HS := HS.bel hb
  have HC := HC.bel hb
  clear hb hw3 hv0
  go_upto_region 2 with fail
  refine v_cut9 (fun T v => T.size = 44 ∧ T[2]? = some (gw true (.pointer (some ⟨w.heap.size, 0, none⟩))) ∧ T[3]? = some (gw true (.pointer (some ⟨w.heap.size + 1, 0, none⟩))) ∧ T[5]? = some (gw true (.pointer (some ⟨w.heap.size + 2, 0, none⟩))) ∧ ∃ (q6 : Nat) (u u2 t : Sta) (D1 E1 : List (SV (Int × Int))) (La Lb : List (SV En)) (b1 : Bool) (B9 : Nat) (w9 : World), T[6]? = some (gw true (.pointer (some ⟨q6, 0, none⟩))) ∧ T[7]? = some (gw true (.bool b1)) ∧ T[8]? = some (gw true (.int .i64 (u.ckE c))) ∧ Hid (SB7 v q6 t ∧ t.In v ∧ Wt8 B9 c u t b1 w9 ∧ s.Alike9 u ∧ GS9 v (w.heap.size + 2) [u] [u2] D1 E1 La Lb ∧ CB7 v (w.heap.size) c ∧ SB7 v (w.heap.size + 1) s ∧ Below w.heap.size w v)) ?_ ?_
  · refine vh_start (fun v => CB7 v (w.heap.size) c ∧ SB7 v (w.heap.size + 1) s) (by kernel_rfl) ?_
    have hb0 : Below w3.heap.size w3 w3.drew := (Below.refl _ _).drew
    have hB := hB.trans (hb0.mono (by omega))
    have G3 := G3.bel hb0
    have hS : CB7 w3.drew (w.heap.size) c ∧ SB7 w3.drew (w.heap.size + 1) s := ⟨HC.bel hb0, HS.bel hb0⟩
    have hzd : w3.drew.heap.size = w.heap.size + 3 := hz3
    clear hb0 HC HS
    obtain ⟨wd, hwd⟩ : ∃ y, y = w3.drew := ⟨_, rfl⟩
    rw [← hwd] at hS G3 hB hzd ⊢
    clear hwd
    refine vh_take 0 true (c.val) rfl (by kernel_rfl) (by kernel_rfl) (by kernel_rfl) (want_none rfl) (fun hc v hv => ex_ld rfl (ev s2 rfl) (CB7.ld hv.1)) rfl hz (by decide) hS (fun R1 zz kk s13 => ?_)
    replace s2 := ku s2
    replace s3 := ku s3
    replace s5 := ku s5
    replace hz := zz
    clear kk zz
    refine vh_take 1 true (s.val) rfl (by kernel_rfl) (by kernel_rfl) (by kernel_rfl) (want_none rfl) (fun hc v hv => ex_ld rfl (ev s3 rfl) (SB7.ld hv.2)) rfl hz (by decide) hS (fun R2 zz kk s14 => ?_)
    replace s2 := ku s2
    replace s3 := ku s3
    replace s5 := ku s5
    replace s13 := ku s13
    replace hz := zz
    clear kk zz
    obtain ⟨q6, hq6⟩ : ∃ z, z = wd.heap.size := ⟨_, rfl⟩
    obtain ⟨wa, hwa⟩ : ∃ y, y = wd.alloc (.cells zS8.cs.toArray 33) := ⟨_, rfl⟩
    have b6 : Below wd.heap.size wd wa := by rw [hwa]; exact (Below.refl _ _).alloc (Nat.le_refl _) _
    have HQ : SB7 wa q6 zS8 := by rw [hwa, hq6]; exact BX7.new _ _ _
    have z6 := b6.size
    have hS6 := And.intro (hS.1.bel b6) (hS.2.bel b6)
    refine vh_two9 2 8 (by kernel_rfl) rfl rfl (want_none rfl) (ex_call rfl (by simp only [List.map_toArray, List.map_cons, List.map_nil, (ev s5 rfl), (ev s14 rfl), evc] <;> rfl) rfl) (givenstate9 s (w.heap.size + 2) _ _ G3 (hI.later hB) hF hb1 hb2) rfl hz (by decide) ?_ (.pointer (some ⟨q6, 0, none⟩)) wa (want_none rfl) (ex_al rfl (by rw [hwa, hq6]; exact al12 _)) rfl (by decide) hS6 ?_
    · clear hwa b6 HQ z6 hS6 hq6
      rintro e x4 ⟨u, u2, D1, E1, La, Lb, rfl, ual, gs, gsr, U4⟩
      clear wa q6
      have hS4 := And.intro (hS.1.upd U4 (by show ¬ w.heap.size = w.heap.size + 2; omega)) (hS.2.upd U4 (by show ¬ w.heap.size + 1 = w.heap.size + 2; omega))
      refine ⟨_, rfl, hS4, fun R3 zz kk s15 => ?_⟩
      replace s2 := ku s2
      replace s3 := ku s3
      replace s5 := ku s5
      replace s13 := ku s13
      replace s14 := ku s14
      replace hz := zz
      clear kk zz
      have z4 := U4.size
      have hB := hB.trans (U4.below (B := w.heap.size) (by omega) (fun k hk => by omega))
      clear hS
      have hS := hS4
      clear hS4 G3
      obtain ⟨q6, hq6⟩ : ∃ z, z = x4.heap.size := ⟨_, rfl⟩
      obtain ⟨ya, hya⟩ : ∃ y, y = x4.alloc (.cells zS8.cs.toArray 33) := ⟨_, rfl⟩
      have b6 : Below x4.heap.size x4 ya := by rw [hya]; exact (Below.refl _ _).alloc (Nat.le_refl _) _
      have HQ : SB7 ya q6 zS8 := by rw [hya, hq6]; exact BX7.new _ _ _
      have z6 := b6.size
      have hS6 := And.intro (hS.1.bel b6) (hS.2.bel b6)
      refine vh_two9 3 8 (by kernel_rfl) rfl rfl (want_none rfl) (ex_call rfl (by simp only [List.map_toArray, List.map_cons, List.map_nil, (ev s13 rfl), (ev s15 rfl), evc] <;> rfl) rfl) (wait8 c u x4 (gs.m8 u (by simp)) (ual.fit hF)) rfl hz (by decide) ?_ (.pointer (some ⟨q6, 0, none⟩)) ya (want_none rfl) (ex_al rfl (by rw [hya, hq6]; exact al12 _)) rfl (by decide) hS6 ?_
      · clear hya b6 HQ z6 hS6 hq6
        rintro e x5 ⟨t, b1, rfl, tin, ht, b5⟩
        clear ya q6
        have hS5 := And.intro (hS.1.bel b5) (hS.2.bel b5)
        refine ⟨_, rfl, hS5, fun R4 zz kk s16 => ?_⟩
        replace s2 := ku s2
        replace s3 := ku s3
        replace s5 := ku s5
        replace s13 := ku s13
        replace s14 := ku s14
        replace s15 := ku s15
        replace hz := zz
        clear kk zz
        have z5 := b5.size
        have hB := hB.trans (b5.mono (by omega))
        clear hS
        have hS := hS5
        clear hS5
        refine vh_take 4 true (.tuple #[t.val, .bool b1, .int .i64 (u.ckE c)]) rfl (by kernel_rfl) (by kernel_rfl) (by kernel_rfl) (want_none rfl) (fun hc v hv => ex_move rfl (ev s16 rfl)) rfl hz (by decide) hS (fun R5 zz kk s12 => ?_)
        replace s2 := ku s2
        replace s3 := ku s3
        replace s5 := ku s5
        replace s13 := ku s13
        replace s14 := ku s14
        replace s15 := ku s15
        replace s16 := ku s16
        replace hz := zz
        clear kk zz
        refine vh_take 5 true (t.val) rfl (by kernel_rfl) (by kernel_rfl) (by kernel_rfl) (want_none rfl) (fun hc v hv => ex_ext8 rfl (ev s12 rfl) rfl) rfl hz (by decide) hS (fun R6 zz kk s17 => ?_)
        replace s2 := ku s2
        replace s3 := ku s3
        replace s5 := ku s5
        replace s13 := ku s13
        replace s14 := ku s14
        replace s15 := ku s15
        replace s16 := ku s16
        replace s12 := ku s12
        replace hz := zz
        clear kk zz
        refine vh_take 6 true (.bool b1) rfl (by kernel_rfl) (by kernel_rfl) (by kernel_rfl) (want_none rfl) (fun hc v hv => ex_ext8 rfl (ev s12 rfl) rfl) rfl hz (by decide) hS (fun R7 zz kk s18 => ?_)
        replace s2 := ku s2
        replace s3 := ku s3
        replace s5 := ku s5
        replace s13 := ku s13
        replace s14 := ku s14
        replace s15 := ku s15
        replace s16 := ku s16
        replace s12 := ku s12
        replace s17 := ku s17
        replace hz := zz
        clear kk zz
        refine vh_take 7 true (.int .i64 (u.ckE c)) rfl (by kernel_rfl) (by kernel_rfl) (by kernel_rfl) (want_none rfl) (fun hc v hv => ex_ext8 rfl (ev s12 rfl) rfl) rfl hz (by decide) hS (fun R8 zz kk s19 => ?_)
        replace s2 := ku s2
        replace s3 := ku s3
        replace s5 := ku s5
        replace s13 := ku s13
        replace s14 := ku s14
        replace s15 := ku s15
        replace s16 := ku s16
        replace s12 := ku s12
        replace s17 := ku s17
        replace s18 := ku s18
        replace hz := zz
        clear kk zz
        obtain ⟨q6, hq6⟩ : ∃ z, z = x5.heap.size := ⟨_, rfl⟩
        obtain ⟨yb, hyb⟩ : ∃ y, y = x5.alloc (.cells zS8.cs.toArray 33) := ⟨_, rfl⟩
        have b6 : Below x5.heap.size x5 yb := by rw [hyb]; exact (Below.refl _ _).alloc (Nat.le_refl _) _
        have HQ : SB7 yb q6 zS8 := by rw [hyb, hq6]; exact BX7.new _ _ _
        have z6 := b6.size
        have hS6 := And.intro (hS.1.bel b6) (hS.2.bel b6)
        refine vh_val8 8 (.pointer (some ⟨q6, 0, none⟩)) yb rfl (by kernel_rfl) (want_none rfl) (ex_al rfl (by rw [hyb, hq6]; exact al12 _)) rfl hz (by decide) hS6 (fun R9 zz kk s6 => ?_)
        replace s2 := ku s2
        replace s3 := ku s3
        replace s5 := ku s5
        replace s13 := ku s13
        replace s14 := ku s14
        replace s15 := ku s15
        replace s16 := ku s16
        replace s12 := ku s12
        replace s17 := ku s17
        replace s18 := ku s18
        replace s19 := ku s19
        replace hz := zz
        clear kk zz
        have hB := hB.trans (b6.mono (by omega))
        clear hS
        have hS := hS6
        clear hS6 hyb
        have ltq := HQ.lt
        have HT := SB7.put HQ t
        have UT := upd12 yb q6 t
        have hS7 := And.intro (hS.1.upd UT (by show ¬ w.heap.size = q6; omega)) (hS.2.upd UT (by show ¬ w.heap.size + 1 = q6; omega))
        refine vh_store8 9 (sets yb q6 0 t.cs) rfl (by kernel_rfl) (want_none rfl) (ex_st rfl (ev s6 rfl) (ev s17 rfl) (st12 HQ t)) rfl hS7 ?_
        obtain ⟨x7, hx7⟩ : ∃ v, v = sets yb q6 0 t.cs := ⟨_, rfl⟩
        rw [← hx7] at HT UT hS7 ⊢
        clear hx7
        have hB7 := hB.trans (UT.below (B := w.heap.size) (by omega) (fun k hk => by omega))
        have gs7 : GS9 x7 (w.heap.size + 2) [u] [u2] D1 E1 La Lb := gs.later0 (b5.trans ((b6.trans (UT.below (by omega) (fun k hk => by omega))).mono (by omega)))
        have tin7 : t.In x7 := tin.later (b6.trans (UT.below (by omega) (fun k hk => by omega)))
        clear hS
        have hS := hS7
        refine vh_take 10 true (.bool b1) rfl (by kernel_rfl) (by kernel_rfl) (by kernel_rfl) (want_none rfl) (fun hc v hv => ex_assign rfl (ev s18 rfl)) rfl hz (by decide) hS (fun R10 zz kk s7 => ?_)
        replace s2 := ku s2
        replace s3 := ku s3
        replace s5 := ku s5
        replace s13 := ku s13
        replace s14 := ku s14
        replace s15 := ku s15
        replace s16 := ku s16
        replace s12 := ku s12
        replace s17 := ku s17
        replace s18 := ku s18
        replace s19 := ku s19
        replace s6 := ku s6
        replace hz := zz
        clear kk zz
        refine vh_take 11 true (.int .i64 (u.ckE c)) rfl (by kernel_rfl) (by kernel_rfl) (by kernel_rfl) (want_none rfl) (fun hc v hv => ex_assign rfl (ev s19 rfl)) rfl hz (by decide) hS (fun R11 zz kk s8 => ?_)
        replace s2 := ku s2
        replace s3 := ku s3
        replace s5 := ku s5
        replace s13 := ku s13
        replace s14 := ku s14
        replace s15 := ku s15
        replace s16 := ku s16
        replace s12 := ku s12
        replace s17 := ku s17
        replace s18 := ku s18
        replace s19 := ku s19
        replace s6 := ku s6
        replace s7 := ku s7
        replace hz := zz
        clear kk zz
        refine vh_done (by kernel_rfl) ?_
        exact ⟨_, rfl, hz, s2, s3, s5, q6, u, u2, t, D1, E1, La, Lb, b1, _, _, s6, s7, s8, HT, tin7, ht, ual, gs7, hS.1, hS.2, hB7⟩
      · intro R12 zz kk s6x
        replace s2 := ku s2
        replace s3 := ku s3
        replace s5 := ku s5
        replace s13 := ku s13
        replace s14 := ku s14
        replace s15 := ku s15
        clear kk hz
        have hz := zz
        have s6 := s6x
        clear zz s6x
        have hB := hB.trans (b6.mono (by omega))
        clear hS
        have hS := hS6
        clear hS6 hya
        have ltq := HQ.lt
        have b6a := b6
        refine vh_call 3 rfl (by kernel_rfl) (want_none rfl) (ex_call rfl (by simp only [List.map_toArray, List.map_cons, List.map_nil, (ev s13 rfl), (ev s15 rfl), evc] <;> rfl) rfl) (wait8 c u ya ((gs.m8 u (by simp)).later b6) (ual.fit hF)) rfl hz (by decide) ?_
        rintro e x5 ⟨t, b1, rfl, tin, ht, b5⟩
        have hS5 := And.intro (hS.1.bel b5) (hS.2.bel b5)
        refine ⟨_, rfl, hS5, fun R13 zz kk s16 => ?_⟩
        replace s2 := ku s2
        replace s3 := ku s3
        replace s5 := ku s5
        replace s13 := ku s13
        replace s14 := ku s14
        replace s15 := ku s15
        replace s6 := ku s6
        replace hz := zz
        clear kk zz
        have z5 := b5.size
        have hB := hB.trans (b5.mono (by omega))
        clear hS
        have hS := hS5
        clear hS5
        have HQ := HQ.bel b5
        refine vh_take 4 true (.tuple #[t.val, .bool b1, .int .i64 (u.ckE c)]) rfl (by kernel_rfl) (by kernel_rfl) (by kernel_rfl) (want_none rfl) (fun hc v hv => ex_move rfl (ev s16 rfl)) rfl hz (by decide) hS (fun R14 zz kk s12 => ?_)
        replace s2 := ku s2
        replace s3 := ku s3
        replace s5 := ku s5
        replace s13 := ku s13
        replace s14 := ku s14
        replace s15 := ku s15
        replace s6 := ku s6
        replace s16 := ku s16
        replace hz := zz
        clear kk zz
        refine vh_take 5 true (t.val) rfl (by kernel_rfl) (by kernel_rfl) (by kernel_rfl) (want_none rfl) (fun hc v hv => ex_ext8 rfl (ev s12 rfl) rfl) rfl hz (by decide) hS (fun R15 zz kk s17 => ?_)
        replace s2 := ku s2
        replace s3 := ku s3
        replace s5 := ku s5
        replace s13 := ku s13
        replace s14 := ku s14
        replace s15 := ku s15
        replace s6 := ku s6
        replace s16 := ku s16
        replace s12 := ku s12
        replace hz := zz
        clear kk zz
        refine vh_take 6 true (.bool b1) rfl (by kernel_rfl) (by kernel_rfl) (by kernel_rfl) (want_none rfl) (fun hc v hv => ex_ext8 rfl (ev s12 rfl) rfl) rfl hz (by decide) hS (fun R16 zz kk s18 => ?_)
        replace s2 := ku s2
        replace s3 := ku s3
        replace s5 := ku s5
        replace s13 := ku s13
        replace s14 := ku s14
        replace s15 := ku s15
        replace s6 := ku s6
        replace s16 := ku s16
        replace s12 := ku s12
        replace s17 := ku s17
        replace hz := zz
        clear kk zz
        refine vh_take 7 true (.int .i64 (u.ckE c)) rfl (by kernel_rfl) (by kernel_rfl) (by kernel_rfl) (want_none rfl) (fun hc v hv => ex_ext8 rfl (ev s12 rfl) rfl) rfl hz (by decide) hS (fun R17 zz kk s19 => ?_)
        replace s2 := ku s2
        replace s3 := ku s3
        replace s5 := ku s5
        replace s13 := ku s13
        replace s14 := ku s14
        replace s15 := ku s15
        replace s6 := ku s6
        replace s16 := ku s16
        replace s12 := ku s12
        replace s17 := ku s17
        replace s18 := ku s18
        replace hz := zz
        clear kk zz
        have HT := SB7.put HQ t
        have UT := upd12 x5 q6 t
        have hS7 := And.intro (hS.1.upd UT (by show ¬ w.heap.size = q6; omega)) (hS.2.upd UT (by show ¬ w.heap.size + 1 = q6; omega))
        refine vh_store8 9 (sets x5 q6 0 t.cs) rfl (by kernel_rfl) (want_none rfl) (ex_st rfl (ev s6 rfl) (ev s17 rfl) (st12 HQ t)) rfl hS7 ?_
        obtain ⟨x7, hx7⟩ : ∃ v, v = sets x5 q6 0 t.cs := ⟨_, rfl⟩
        rw [← hx7] at HT UT hS7 ⊢
        clear hx7
        have hB7 := hB.trans (UT.below (B := w.heap.size) (by omega) (fun k hk => by omega))
        have gs7 : GS9 x7 (w.heap.size + 2) [u] [u2] D1 E1 La Lb := gs.later0 (b6a.trans ((b5.mono (by omega)).trans (UT.below (by omega) (fun k hk => by omega))))
        have tin7 : t.In x7 := ht.in9 tin UT (by omega)
        clear hS
        have hS := hS7
        refine vh_take 10 true (.bool b1) rfl (by kernel_rfl) (by kernel_rfl) (by kernel_rfl) (want_none rfl) (fun hc v hv => ex_assign rfl (ev s18 rfl)) rfl hz (by decide) hS (fun R18 zz kk s7 => ?_)
        replace s2 := ku s2
        replace s3 := ku s3
        replace s5 := ku s5
        replace s13 := ku s13
        replace s14 := ku s14
        replace s15 := ku s15
        replace s6 := ku s6
        replace s16 := ku s16
        replace s12 := ku s12
        replace s17 := ku s17
        replace s18 := ku s18
        replace s19 := ku s19
        replace hz := zz
        clear kk zz
        refine vh_take 11 true (.int .i64 (u.ckE c)) rfl (by kernel_rfl) (by kernel_rfl) (by kernel_rfl) (want_none rfl) (fun hc v hv => ex_assign rfl (ev s19 rfl)) rfl hz (by decide) hS (fun R19 zz kk s8 => ?_)
        replace s2 := ku s2
        replace s3 := ku s3
        replace s5 := ku s5
        replace s13 := ku s13
        replace s14 := ku s14
        replace s15 := ku s15
        replace s6 := ku s6
        replace s16 := ku s16
        replace s12 := ku s12
        replace s17 := ku s17
        replace s18 := ku s18
        replace s19 := ku s19
        replace s7 := ku s7
        replace hz := zz
        clear kk zz
        refine vh_done (by kernel_rfl) ?_
        exact ⟨_, rfl, hz, s2, s3, s5, q6, u, u2, t, D1, E1, La, Lb, b1, _, _, s6, s7, s8, HT, tin7, ht, ual, gs7, hS.1, hS.2, hB7⟩
    · intro R20 zz kk s6x
      replace s2 := ku s2
      replace s3 := ku s3
      replace s5 := ku s5
      replace s13 := ku s13
      replace s14 := ku s14
      clear kk hz
      have hz := zz
      have s6 := s6x
      clear zz s6x
      have G3 := G3.bel b6
      have hB := hB.trans (b6.mono (by omega))
      clear hS
      have hS := hS6
      clear hS6 hwa
      have ltq := HQ.lt
      refine vh_call 2 rfl (by kernel_rfl) (want_none rfl) (ex_call rfl (by simp only [List.map_toArray, List.map_cons, List.map_nil, (ev s5 rfl), (ev s14 rfl), evc] <;> rfl) rfl) (givenstate9 s (w.heap.size + 2) _ _ G3 (hI.later hB) hF hb1 hb2) rfl hz (by decide) ?_
      rintro e x4 ⟨u, u2, D1, E1, La, Lb, rfl, ual, gs, gsr, U4⟩
      have HQ := HQ.upd U4 (by show ¬ q6 = w.heap.size + 2; omega)
      have hS4 := And.intro (hS.1.upd U4 (by show ¬ w.heap.size = w.heap.size + 2; omega)) (hS.2.upd U4 (by show ¬ w.heap.size + 1 = w.heap.size + 2; omega))
      refine ⟨_, rfl, hS4, fun R21 zz kk s15 => ?_⟩
      replace s2 := ku s2
      replace s3 := ku s3
      replace s5 := ku s5
      replace s13 := ku s13
      replace s14 := ku s14
      replace s6 := ku s6
      replace hz := zz
      clear kk zz
      have z4 := U4.size
      have hB := hB.trans (U4.below (B := w.heap.size) (by omega) (fun k hk => by omega))
      clear hS
      have hS := hS4
      clear hS4 G3
      refine vh_call 3 rfl (by kernel_rfl) (want_none rfl) (ex_call rfl (by simp only [List.map_toArray, List.map_cons, List.map_nil, (ev s13 rfl), (ev s15 rfl), evc] <;> rfl) rfl) (wait8 c u x4 (gs.m8 u (by simp)) (ual.fit hF)) rfl hz (by decide) ?_
      rintro e x5 ⟨t, b1, rfl, tin, ht, b5⟩
      have hS5 := And.intro (hS.1.bel b5) (hS.2.bel b5)
      refine ⟨_, rfl, hS5, fun R22 zz kk s16 => ?_⟩
      replace s2 := ku s2
      replace s3 := ku s3
      replace s5 := ku s5
      replace s13 := ku s13
      replace s14 := ku s14
      replace s6 := ku s6
      replace s15 := ku s15
      replace hz := zz
      clear kk zz
      have z5 := b5.size
      have hB := hB.trans (b5.mono (by omega))
      clear hS
      have hS := hS5
      clear hS5
      have HQ := HQ.bel b5
      refine vh_take 4 true (.tuple #[t.val, .bool b1, .int .i64 (u.ckE c)]) rfl (by kernel_rfl) (by kernel_rfl) (by kernel_rfl) (want_none rfl) (fun hc v hv => ex_move rfl (ev s16 rfl)) rfl hz (by decide) hS (fun R23 zz kk s12 => ?_)
      replace s2 := ku s2
      replace s3 := ku s3
      replace s5 := ku s5
      replace s13 := ku s13
      replace s14 := ku s14
      replace s6 := ku s6
      replace s15 := ku s15
      replace s16 := ku s16
      replace hz := zz
      clear kk zz
      refine vh_take 5 true (t.val) rfl (by kernel_rfl) (by kernel_rfl) (by kernel_rfl) (want_none rfl) (fun hc v hv => ex_ext8 rfl (ev s12 rfl) rfl) rfl hz (by decide) hS (fun R24 zz kk s17 => ?_)
      replace s2 := ku s2
      replace s3 := ku s3
      replace s5 := ku s5
      replace s13 := ku s13
      replace s14 := ku s14
      replace s6 := ku s6
      replace s15 := ku s15
      replace s16 := ku s16
      replace s12 := ku s12
      replace hz := zz
      clear kk zz
      refine vh_take 6 true (.bool b1) rfl (by kernel_rfl) (by kernel_rfl) (by kernel_rfl) (want_none rfl) (fun hc v hv => ex_ext8 rfl (ev s12 rfl) rfl) rfl hz (by decide) hS (fun R25 zz kk s18 => ?_)
      replace s2 := ku s2
      replace s3 := ku s3
      replace s5 := ku s5
      replace s13 := ku s13
      replace s14 := ku s14
      replace s6 := ku s6
      replace s15 := ku s15
      replace s16 := ku s16
      replace s12 := ku s12
      replace s17 := ku s17
      replace hz := zz
      clear kk zz
      refine vh_take 7 true (.int .i64 (u.ckE c)) rfl (by kernel_rfl) (by kernel_rfl) (by kernel_rfl) (want_none rfl) (fun hc v hv => ex_ext8 rfl (ev s12 rfl) rfl) rfl hz (by decide) hS (fun R26 zz kk s19 => ?_)
      replace s2 := ku s2
      replace s3 := ku s3
      replace s5 := ku s5
      replace s13 := ku s13
      replace s14 := ku s14
      replace s6 := ku s6
      replace s15 := ku s15
      replace s16 := ku s16
      replace s12 := ku s12
      replace s17 := ku s17
      replace s18 := ku s18
      replace hz := zz
      clear kk zz
      have HT := SB7.put HQ t
      have UT := upd12 x5 q6 t
      have hS7 := And.intro (hS.1.upd UT (by show ¬ w.heap.size = q6; omega)) (hS.2.upd UT (by show ¬ w.heap.size + 1 = q6; omega))
      refine vh_store8 9 (sets x5 q6 0 t.cs) rfl (by kernel_rfl) (want_none rfl) (ex_st rfl (ev s6 rfl) (ev s17 rfl) (st12 HQ t)) rfl hS7 ?_
      obtain ⟨x7, hx7⟩ : ∃ v, v = sets x5 q6 0 t.cs := ⟨_, rfl⟩
      rw [← hx7] at HT UT hS7 ⊢
      clear hx7
      have hB7 := hB.trans (UT.below (B := w.heap.size) (by omega) (fun k hk => by omega))
      have gs7 : GS9 x7 (w.heap.size + 2) [u] [u2] D1 E1 La Lb := gsr q6 x7 (by omega) (by omega) ((Upd.of_below b5).trans UT)
      have tin7 : t.In x7 := ht.in9 tin UT (by omega)
      clear hS
      have hS := hS7
      refine vh_take 10 true (.bool b1) rfl (by kernel_rfl) (by kernel_rfl) (by kernel_rfl) (want_none rfl) (fun hc v hv => ex_assign rfl (ev s18 rfl)) rfl hz (by decide) hS (fun R27 zz kk s7 => ?_)
      replace s2 := ku s2
      replace s3 := ku s3
      replace s5 := ku s5
      replace s13 := ku s13
      replace s14 := ku s14
      replace s6 := ku s6
      replace s15 := ku s15
      replace s16 := ku s16
      replace s12 := ku s12
      replace s17 := ku s17
      replace s18 := ku s18
      replace s19 := ku s19
      replace hz := zz
      clear kk zz
      refine vh_take 11 true (.int .i64 (u.ckE c)) rfl (by kernel_rfl) (by kernel_rfl) (by kernel_rfl) (want_none rfl) (fun hc v hv => ex_assign rfl (ev s19 rfl)) rfl hz (by decide) hS (fun R28 zz kk s8 => ?_)
      replace s2 := ku s2
      replace s3 := ku s3
      replace s5 := ku s5
      replace s13 := ku s13
      replace s14 := ku s14
      replace s6 := ku s6
      replace s15 := ku s15
      replace s16 := ku s16
      replace s12 := ku s12
      replace s17 := ku s17
      replace s18 := ku s18
      replace s19 := ku s19
      replace s7 := ku s7
      replace hz := zz
      clear kk zz
      refine vh_done (by kernel_rfl) ?_
      exact ⟨_, rfl, hz, s2, s3, s5, q6, u, u2, t, D1, E1, La, Lb, b1, _, _, s6, s7, s8, HT, tin7, ht, ual, gs7, hS.1, hS.2, hB7⟩
  · clear hz s2 s3 s5 HC HS G3 hB hz3
    intro T9 z1 hJ
    obtain ⟨hz, s2, s3, s5, q6, u, u2, t, D1, E1, La, Lb, b1, B9, w9, s6, s7, s8, HI⟩ := hJ
    obtain ⟨HT, tin, ht, ual, gs, HC, HS, hB⟩ := HI.out
    clear HI
    go_upto_region 3 with fail
    refine wp_region_lit ?_
    refine vt (c.val) (ex_ld rfl (ev s2 rfl) (CB7.ld HC)) hz (fun Yc zz kk s21 => ?_)
    replace s3 := ku s3
    replace s5 := ku s5
    replace s6 := ku s6
    replace s7 := ku s7
    replace s8 := ku s8
    replace hz := zz
    clear kk zz s2
    refine vt (s.val) (ex_ld rfl (ev s3 rfl) (SB7.ld HS)) hz (fun Yd zz kk s22 => ?_)
    replace s5 := ku s5
    replace s6 := ku s6
    replace s7 := ku s7
    replace s8 := ku s8
    replace s21 := ku s21
    replace hz := zz
    clear kk zz s3 Yc
    refine vcallP (want_none rfl) (ex_call rfl (by simp only [List.map_toArray, List.map_cons, List.map_nil, (ev s21 rfl), (ev s22 rfl), evc] <;> rfl) rfl) (rwait9 c s z1 (hI.later hB) hF hb1 hb2) rfl hz (by decide) ?_
    rintro e z2 ⟨r, b2, rfl, rin, hr, hb⟩
    refine ⟨_, rfl, fun Ye zz kk s23 => ?_⟩
    have HT := HT.bel hb
    have tin := tin.later hb
    have gs := gs.later0 hb
    have HC := HC.bel hb
    have HS := HS.bel hb
    have hB := hB.trans (hb.mono (by have := hB.size; omega))
    clear hb
    obtain ⟨q9, hq9⟩ : ∃ z, z = z2.heap.size := ⟨_, rfl⟩
    obtain ⟨z3, hz3⟩ : ∃ y, y = z2.alloc (.cells zS8.cs.toArray 33) := ⟨_, rfl⟩
    have b6 : Below z2.heap.size z2 z3 := by rw [hz3]; exact (Below.refl _ _).alloc (Nat.le_refl _) _
    have HQ : SB7 z3 q9 zS8 := by rw [hz3, hq9]; exact BX7.new _ _ _
    have z6 := b6.size
    have ltq := HQ.lt
    replace s5 := ku s5
    replace s6 := ku s6
    replace s7 := ku s7
    replace s8 := ku s8
    replace hz := zz
    clear kk zz s21 s22 Yd
    refine vt _ (ex_move rfl (ev s23 rfl)) hz (fun Yf zz kk s20 => ?_)
    replace s5 := ku s5
    replace s6 := ku s6
    replace s7 := ku s7
    replace s8 := ku s8
    replace hz := zz
    clear kk zz s23 Ye
    refine vt (r.val) (ex_ext8 rfl (ev s20 rfl) rfl) hz (fun Yg zz kk s24 => ?_)
    replace s5 := ku s5
    replace s6 := ku s6
    replace s7 := ku s7
    replace s8 := ku s8
    replace s20 := ku s20
    replace hz := zz
    clear kk zz Yf
    refine vt (.bool b2) (ex_ext8 rfl (ev s20 rfl) rfl) hz (fun Yh zz kk s25 => ?_)
    replace s5 := ku s5
    replace s6 := ku s6
    replace s7 := ku s7
    replace s8 := ku s8
    replace s20 := ku s20
    replace s24 := ku s24
    replace hz := zz
    clear kk zz Yg
    refine vt (.int .i64 (s.rk9 c)) (ex_ext8 rfl (ev s20 rfl) rfl) hz (fun Yi zz kk s26 => ?_)
    replace s5 := ku s5
    replace s6 := ku s6
    replace s7 := ku s7
    replace s8 := ku s8
    replace s24 := ku s24
    replace s25 := ku s25
    replace hz := zz
    clear kk zz s20 Yh
    refine vw (.pointer (some ⟨q9, 0, none⟩)) z3 (want_none rfl) (ex_al rfl (by rw [hz3, hq9]; exact al12 _)) rfl hz (by decide) (fun Yj zz kk s9 => ?_)
    replace s5 := ku s5
    replace s6 := ku s6
    replace s7 := ku s7
    replace s8 := ku s8
    replace s24 := ku s24
    replace s25 := ku s25
    replace s26 := ku s26
    replace hz := zz
    clear kk zz Yi
    refine vs (sets z3 q9 0 r.cs) (want_none rfl) (ex_st rfl (ev s9 rfl) (ev s24 rfl) (st12 HQ r)) rfl ?_
    have HR := SB7.put HQ r
    have UT := upd12 z3 q9 r
    obtain ⟨z4, hz4⟩ : ∃ v, v = sets z3 q9 0 r.cs := ⟨_, rfl⟩
    rw [← hz4] at HR UT ⊢
    clear hz4 hz3
    have hb : Below z2.heap.size z2 z4 := b6.trans (UT.below (by omega) (fun k hk => by omega))
    have HT := HT.bel hb
    have tin := tin.later hb
    have gs := gs.later0 hb
    have HC := HC.bel hb
    have HS := HS.bel hb
    have hB := hB.trans (hb.mono (by have := hB.size; omega))
    have rin := rin.later hb
    clear hb UT HQ b6
    have hal := waits_alike9 ual ht hr
    refine vt _ (ex_assign rfl (ev s25 rfl)) hz (fun Yk zz kk s10 => ?_)
    replace s5 := ku s5
    replace s6 := ku s6
    replace s7 := ku s7
    replace s8 := ku s8
    replace s9 := ku s9
    replace s26 := ku s26
    replace hz := zz
    clear kk zz s24 s25 Yj
    refine vt _ (ex_assign rfl (ev s26 rfl)) hz (fun Yl zz kk s11 => ?_)
    replace s5 := ku s5
    replace s6 := ku s6
    replace s7 := ku s7
    replace s8 := ku s8
    replace s9 := ku s9
    replace s10 := ku s10
    replace hz := zz
    clear kk zz s26 Yk
    refine wpList_nil ?_
    go_upto_region 4 with fail
    refine wp_region_lit ?_
    refine vt _ (ex_move rfl (ev s8 rfl)) hz (fun Ym zz kk s27 => ?_)
    replace s5 := ku s5
    replace s6 := ku s6
    replace s7 := ku s7
    replace s9 := ku s9
    replace s10 := ku s10
    replace s11 := ku s11
    replace hz := zz
    clear kk zz s8
    refine vcallP (want_none rfl) (ex_call rfl (by simp only [List.map_toArray, List.map_cons, List.map_nil, (ev s27 rfl), evc] <;> rfl) rfl) (num9 (u.ckE c) _) rfl hz (by decide) ?_
    rintro e z5 ⟨rfl, hb⟩
    refine ⟨_, rfl, fun Yn zz kk s28 => ?_⟩
    have HT := HT.bel hb
    have tin := tin.later hb
    have gs := gs.later0 hb
    have HC := HC.bel hb
    have HS := HS.bel hb
    have hB := hB.trans (hb.mono (by have := hB.size; omega))
    have HR := HR.bel hb
    have rin := rin.later hb
    clear hb
    replace s5 := ku s5
    replace s6 := ku s6
    replace s7 := ku s7
    replace s9 := ku s9
    replace s10 := ku s10
    replace s11 := ku s11
    replace hz := zz
    clear kk zz s27 Ym
    refine vt _ (ex_move rfl (ev s11 rfl)) hz (fun Yo zz kk s29 => ?_)
    replace s5 := ku s5
    replace s6 := ku s6
    replace s7 := ku s7
    replace s9 := ku s9
    replace s10 := ku s10
    replace s28 := ku s28
    replace hz := zz
    clear kk zz s11 Yn
    refine vt (.bool true) (ex_bin rfl (ev s28 rfl) (ev s29 rfl) (eqlI9 _ _ _ _ hal.2.2 _)) hz (fun Yp zz kk s30 => ?_)
    replace s5 := ku s5
    replace s6 := ku s6
    replace s7 := ku s7
    replace s9 := ku s9
    replace s10 := ku s10
    replace hz := zz
    clear kk zz s28 s29 Yo
    refine vt _ (ex_move rfl (ev s30 rfl)) hz (fun Yq zz kk s31 => ?_)
    replace s5 := ku s5
    replace s6 := ku s6
    replace s7 := ku s7
    replace s9 := ku s9
    replace s10 := ku s10
    replace hz := zz
    clear kk zz s30 Yp
    refine vl true _ (want_t9 rfl rfl s31) (fun hc => ex_move rfl (ev s7 rfl)) rfl hz (by decide) (fun Yr zz kk s32 => ?_)
    replace s5 := ku s5
    replace s6 := ku s6
    replace s9 := ku s9
    replace s10 := ku s10
    replace s31 := ku s31
    replace hz := zz
    clear kk zz s7 Yq
    refine vl true _ (want_t9 rfl rfl s31) (fun hc => ex_move rfl (ev s10 rfl)) rfl hz (by decide) (fun Ys zz kk s33 => ?_)
    replace s5 := ku s5
    replace s6 := ku s6
    replace s9 := ku s9
    replace s31 := ku s31
    replace s32 := ku s32
    replace hz := zz
    clear kk zz s10 Yr
    refine vl true (.bool true) (want_t9 rfl rfl s31) (fun hc => ex_bin rfl (ev s32 rfl) (ev s33 rfl) (eqlB9 _ _ _ _ hal.2.1 _)) rfl hz (by decide) (fun Yt zz kk s34 => ?_)
    replace s5 := ku s5
    replace s6 := ku s6
    replace s9 := ku s9
    replace s31 := ku s31
    replace hz := zz
    clear kk zz s32 s33 Ys
    refine vt (.bool true) (ex_andT9 rfl s31 s34) hz (fun Yu zz kk s35 => ?_)
    replace s5 := ku s5
    replace s6 := ku s6
    replace s9 := ku s9
    replace hz := zz
    clear kk zz s31 s34 Yt
    refine vt _ (ex_move rfl (ev s35 rfl)) hz (fun Yv zz kk s36 => ?_)
    replace s5 := ku s5
    replace s6 := ku s6
    replace s9 := ku s9
    replace hz := zz
    clear kk zz s35 Yu
    refine vl true (t.val) (want_t9 rfl rfl s36) (fun hc => ex_ld rfl (ev s6 rfl) (SB7.ld HT)) rfl hz (by decide) (fun Yw zz kk s37 => ?_)
    replace s5 := ku s5
    replace s9 := ku s9
    replace s36 := ku s36
    replace hz := zz
    clear kk zz s6 Yv
    refine vl true (r.val) (want_t9 rfl rfl s36) (fun hc => ex_ld rfl (ev s9 rfl) (SB7.ld HR)) rfl hz (by decide) (fun Yx zz kk s38 => ?_)
    replace s5 := ku s5
    replace s36 := ku s36
    replace s37 := ku s37
    replace hz := zz
    clear kk zz s9 Yw
    refine vcallP (want_t9 rfl rfl s36) (ex_call rfl (by simp only [List.map_toArray, List.map_cons, List.map_nil, (ev s37 rfl), (ev s38 rfl), evc] <;> rfl) rfl) (samestate9 t r _ tin rin hal.1) rfl hz (by decide) ?_
    rintro e z7 ⟨rfl, hb⟩
    refine ⟨_, rfl, fun Yy zz kk s39 => ?_⟩
    have HT := HT.bel hb
    have tin := tin.later hb
    have gs := gs.later0 hb
    have HC := HC.bel hb
    have HS := HS.bel hb
    have hB := hB.trans (hb.mono (by have := hB.size; omega))
    clear hb
    replace s5 := ku s5
    replace s36 := ku s36
    replace hz := zz
    clear kk zz s37 s38 Yx
    refine vt (.bool true) (ex_andT9 rfl s36 s39) hz (fun Yz zz kk s40 => ?_)
    replace s5 := ku s5
    replace hz := zz
    clear kk zz s36 s39 Yy
    refine vt _ (ex_move rfl (ev s40 rfl)) hz (fun Y0 zz kk s41 => ?_)
    replace s5 := ku s5
    replace hz := zz
    clear kk zz s40 Yz
    refine vcallP (want_t9 rfl rfl s41) (ex_call rfl (by simp only [List.map_toArray, List.map_cons, List.map_nil, (ev s5 rfl), evc] <;> rfl) rfl) (intact9 (w.heap.size + 2) _ _ _ _ _ _ _ gs) rfl hz (by decide) ?_
    rintro e z8 ⟨rfl, hb⟩
    refine ⟨_, rfl, fun Y1 zz kk s42 => ?_⟩
    have HT := HT.bel hb
    have tin := tin.later hb
    have gs := gs.later0 hb
    have HC := HC.bel hb
    have HS := HS.bel hb
    have hB := hB.trans (hb.mono (by have := hB.size; omega))
    clear hb
    replace s41 := ku s41
    replace hz := zz
    clear kk zz s5 Y0
    refine vt (.bool true) (ex_andT9 rfl s41 s42) hz (fun Y2 zz kk s43 => ?_)
    replace hz := zz
    clear kk zz s41 s42 Y1
    refine vt _ (ex_assign rfl (ev s43 rfl)) hz (fun Y3 zz kk s4 => ?_)
    replace hz := zz
    clear kk zz s43 Y2
    refine wpList_nil ?_
    go_wp2
    refine bodyPost_ret (results_tmp rfl _ _ _) rfl ⟨?_, hB⟩
    rw [getD_of s4]
    first | done | rfl
end Go.Proofs.YtphdnmamopgelaaGreat
namespace Go.Proofs.YtphdnmamopgelaaGreat
open Go.ChangeShapes Go.WideShapes Go.ChangeAt Go.RowKit
open Classical
theorem intCells : Tryz.prog.cellsOf 3 = 1 := by kernel_rfl
theorem opCells : Tryz.prog.cellsOf 77 = 3 := by kernel_rfl
theorem strCells : Tryz.prog.cellsOf 9 = 1 := by kernel_rfl
theorem open_opc {H : Type} {enc : TypeId × Value → H} {W : World} {base : Nat} {sp : Nat → Bool} {held : Bool} {n : Nat} {cs : List Value} {x : DataW H × List MemPlace} (h : DataW.trod enc Tryz.prog W base sp held n 77 cs = some x) :
    ∃ p : Opn, p.fits ∧ cs = [.int .i64 p.k, .int .i64 p.s, .string p.v] := by
  obtain ⟨xs, k, hk, hxy, hlen, hxl, hf⟩ := DataW.trod_struct Tryz.underlying77 h
  rw [opCells] at hlen
  have hxl : xs.length = 3 := hxl
  match xs, hxl, cs, hlen with
  | [y0, y1, y2], _, [v0, v1, v2], _ =>
    have g0 := hf 0 _ rfl
    have g1 := hf 1 _ rfl
    have g2 := hf 2 _ rfl
    simp [intCells, strCells] at g0 g1 g2
    obtain ⟨K, hK, hx0, hw0⟩ := DataW.trod_int Tryz.underlying3 g0
    obtain ⟨N, hN, hx2, hw2⟩ := DataW.trod_int Tryz.underlying3 g1
    obtain ⟨t, hS, hx4, hw4⟩ := DataW.trod_string Tryz.underlying9 g2
    refine ⟨⟨K, N, t⟩, ⟨hw0, hw2, hw4⟩, ?_⟩
    rw [(List.cons_eq_cons.1 hK).1, (List.cons_eq_cons.1 hN).1, (List.cons_eq_cons.1 hS).1]
theorem enCells : Tryz.prog.cellsOf 79 = 5 := by kernel_rfl
theorem enBytes : Tryz.prog.bytesOf 79 = 48 := by kernel_rfl
theorem open_enc {H : Type} {enc : TypeId × Value → H} {W : World} {base : Nat} {sp : Nat → Bool} {held : Bool} {n : Nat} {cs : List Value} {x : DataW H × List MemPlace} (h : DataW.trod enc Tryz.prog W base sp held n 79 cs = some x) :
    ∃ p : En, p.fits ∧ cs = p.cs := by
  obtain ⟨xs, k, hk, hxy, hlen, hxl, hf⟩ := DataW.trod_struct Tryz.underlying79 h
  rw [enCells] at hlen
  have hxl : xs.length = 3 := hxl
  match xs, hxl, cs, hlen with
  | [y0, y1, y2], _, [v0, v1, v2, v3, v4], _ =>
    have g0 := hf 0 _ rfl
    have g1 := hf 1 _ rfl
    have g2 := hf 2 _ rfl
    simp [intCells, opCells] at g0 g1 g2
    obtain ⟨K, hK, hx0, hw0⟩ := DataW.trod_int Tryz.underlying3 g0
    obtain ⟨N, hN, hx2, hw2⟩ := DataW.trod_int Tryz.underlying3 g1
    obtain ⟨o, ho, e⟩ := open_opc g2
    refine ⟨⟨K, N, o⟩, ⟨hw0, hw2, ho⟩, ?_⟩
    have e0 := (List.cons_eq_cons.1 hK).1
    have e1 := (List.cons_eq_cons.1 hN).1
    simp at e
    obtain ⟨e2, e3, e4⟩ := e
    subst e0 e1 e2 e3 e4
    rfl
theorem weights_in {H : Type} {t : TypeId} {ds : List (DataW H)} {d : DataW H} (hd : d ∈ ds) : ∀ m, m ∈ d.weights Tryz.prog t → m ∈ DataW.weightsAll Tryz.prog t ds := by
  induction ds with
  | nil => cases hd
  | cons x r ih =>
    intro m hm
    simp only [DataW.weightsAll]
    rcases List.mem_cons.1 hd with rfl | h
    · exact List.mem_append_left _ hm
    · exact List.mem_append_right _ (ih h m hm)
theorem u64Cells8 : Tryz.prog.cellsOf 55 = 1 := by kernel_rfl
theorem drCells8 : Tryz.prog.cellsOf 57 = 2 := by kernel_rfl
theorem slCells8 : Tryz.prog.cellsOf 25 = 1 := by kernel_rfl
theorem open_drc8 {H : Type} {enc : TypeId × Value → H} {W : World} {base : Nat} {sp : Nat → Bool} {held : Bool} {n : Nat} {cs : List Value} {x : DataW H × List MemPlace} (h : DataW.trod enc Tryz.prog W base sp held n 57 cs = some x) :
    ∃ a b : Int, ((Lit.int .u64 a).wf = true ∧ (Lit.int .u64 b).wf = true) ∧ cs = [.int .u64 a, .int .u64 b] := by
  obtain ⟨xs, k, hk, hxy, hlen, hxl, hf⟩ := DataW.trod_struct Tryz.underlying57 h
  rw [drCells8] at hlen
  have hxl : xs.length = 2 := hxl
  match xs, hxl, cs, hlen with
  | [y0, y1], _, [v0, v1], _ =>
    have g0 := hf 0 _ rfl
    have g1 := hf 1 _ rfl
    simp [u64Cells8] at g0 g1
    obtain ⟨K, hK, hx0, hw0⟩ := DataW.trod_int Tryz.underlying55 g0
    obtain ⟨N, hN, hx2, hw2⟩ := DataW.trod_int Tryz.underlying55 g1
    refine ⟨K, N, ⟨hw0, hw2⟩, ?_⟩
    rw [(List.cons_eq_cons.1 hK).1, (List.cons_eq_cons.1 hN).1]
theorem log_of_trod {H : Type} {enc : TypeId × Value → H} {W : World} {n : Nat} {v : Value} {d : DataW H} {p : List MemPlace} (hf : DataW.trod enc Tryz.prog W 0 (fun _ => true) true n 25 [v] = some (d, p)) (hw : ∀ m, m ∈ d.weights Tryz.prog 25 → m ≤ reachBytes) :
    ∃ s : SV En, v = .slice s.a s.D.length s.c ∧ SlY yE W s.a s.D.length s.c s.D ∧ (∀ e ∈ s.D, e.fits) ∧ s.D.length * 48 ≤ 140737488351232 := by
  rcases Go.Deep.open_slice Tryz.underlying25 hf with ⟨hcs, hx⟩ | ⟨y, ln, cp, m, k, D, Pl, hcs, hb, hl, hm, hmm, hx, hall⟩
  · have e := (List.cons_eq_cons.1 hcs).1
    exact ⟨⟨none, 0, []⟩, e, ⟨rfl, Nat.le_refl _, Nat.zero_le _, fun _ => ⟨rfl, rfl⟩, fun x hx => .inl rfl⟩, by simp, by simp⟩
  · have e := (List.cons_eq_cons.1 hcs).1
    have hlm : ln ≤ m := by rw [hmm]; split <;> omega
    have hd := congrArg Prod.fst hx
    dsimp only at hd
    have hsz : ln * 48 ≤ 140737488351232 := by
      have := hw _ (by
        rw [hd]
        simp only [DataW.weights, Tryz.underlying25, enBytes]
        exact List.mem_cons_self)
      simp only [List.length_map, List.length_range, reachBytes] at this
      rw [Nat.add_mul] at this
      omega
    have each : ∀ i, i < ln → ∃ q : En, q.fits ∧ (∀ j, j < 5 → W.cell? ((y.add (i * 5)).add j) = q.cs[j]?) := by
      intro i hi
      obtain ⟨cs', h1, h2⟩ := hall i (by omega)
      rw [enCells] at h1
      obtain ⟨q, hf, rfl⟩ := open_enc h2
      obtain ⟨_, _, hcell⟩ := World.cells?_some h1
      exact ⟨q, hf, hcell⟩
    haveI : Inhabited En := ⟨⟨0, 0, ⟨0, 0, ⟨#[]⟩⟩⟩⟩
    obtain ⟨q, hq⟩ := Go.Deep.choose_lt each
    refine ⟨⟨some y, cp, (List.range ln).map q⟩, by rw [e]; simp, ⟨rfl, by simpa using hl, hm, (fun e => by cases e), fun x hx => ?_⟩, ?_, by simpa using hsz⟩
    · cases hx
      by_cases hn0 : ln = 0
      · subst hn0
        exact .inl rfl
      · obtain ⟨b, o, s⟩ := y
        have z0 := (hq 0 (by omega)).2 0 (by omega)
        have z1 := z0.trans (List.getElem?_eq_getElem (by show 0 < 5; omega))
        have hs := World.cell?_spot z1
        obtain rfl : s = none := by
          rw [Nat.zero_mul] at hs
          simpa [Addr.add] using hs
        refine .inr ⟨b, o, rfl, ?_, fun i x hx j u hu => ?_⟩
        · rw [Addr.add_lit, Addr.add_lit] at z1
          exact World.block_lt_of_cell? _ _ z1
        · have hi : i < ln := by
            have := (List.getElem?_eq_some_iff.1 hx).1
            simpa using this
          have e : q i = x := by
            simp [hi] at hx
            exact hx
          subst e
          have hj : j < 5 := (List.getElem?_eq_some_iff.1 hu).1
          have := (hq i hi).2 j hj
          rw [Addr.add_lit, Addr.add_lit] at this
          exact this.trans hu
    · intro z hz
      obtain ⟨i, hi, rfl⟩ := List.mem_map.1 hz
      exact (hq i (List.mem_range.1 hi)).1
theorem cellsBl : Tryz.prog.cellsOf 59 = 6 := by kernel_rfl
theorem bytesBl : Tryz.prog.bytesOf 59 = 64 := by kernel_rfl
structure Bl.fits (W : World) (x : Bl) : Prop where
  nw : (Lit.int .i64 x.n).wf = true
  hw : (Lit.int .u64 x.h).wf = true
  lw : (Lit.int .u64 x.l).wf = true
  vw : (Lit.int .i64 x.v).wf = true
  cw : (Lit.int .i64 x.c).wf = true
  sw : SlY yE W x.s.a x.s.D.length x.s.c x.s.D
  ew : ∀ e ∈ x.s.D, e.fits
  bw : x.s.D.length * 48 ≤ 140737488351232
theorem Bl.fits.In {W : World} {x : Bl} (h : x.fits W) : x.In W := ⟨h.sw, by have := h.bw; omega⟩
theorem open_elBl {H : Type} {enc : TypeId × Value → H} {W : World} {m : Nat} {cs : List Value} {D : DataW H} {q : List MemPlace} (h : DataW.trod enc Tryz.prog W 0 (fun _ => true) true m 59 cs = some (D, q)) (hw : ∀ k, k ∈ D.weights Tryz.prog 59 → k ≤ reachBytes) : ∃ e : Bl, e.fits W ∧ cs = e.cs := by
  obtain ⟨xs, k, hk, hxy, hlen, hxl, hf⟩ := DataW.trod_struct Tryz.underlying59 h
  rw [cellsBl] at hlen
  have hxl : xs.length = 5 := hxl
  match xs, hxl, cs, hlen with
  | [y0, y1, y2, y3, y4], _, [v0, v1, v2, v3, v4, v5], _ =>
    have g0 := hf 0 _ rfl
    have g1 := hf 1 _ rfl
    have g2 := hf 2 _ rfl
    have g3 := hf 3 _ rfl
    have g4 := hf 4 _ rfl
    simp [intCells, drCells8, slCells8] at g0 g1 g2 g3 g4
    obtain ⟨N, hN, _, wN⟩ := DataW.trod_int Tryz.underlying3 g0
    obtain ⟨a, b, ⟨wa, wb⟩, hdr⟩ := open_drc8 g1
    obtain ⟨V, hV, _, wV⟩ := DataW.trod_int Tryz.underlying3 g2
    obtain ⟨C, hC, _, wC⟩ := DataW.trod_int Tryz.underlying3 g3
    have hd : D = .agg ([y0, y1, y2, y3, y4].map Prod.fst) := congrArg Prod.fst hxy
    obtain ⟨s, es, hs, he, hb⟩ := log_of_trod g4 (fun k hk => hw k (by
      rw [hd]
      simp only [DataW.weights, Tryz.underlying59]
      exact DataW.weights_mem_each (j := 4) (t := 25) rfl rfl k hk))
    refine ⟨⟨N, a, b, V, C, s⟩, ⟨wN, wa, wb, wV, wC, hs, he, hb⟩, ?_⟩
    simp at hN hdr hV hC
    obtain ⟨h1, h2⟩ := hdr
    subst hN h1 h2 hV hC es
    rfl
theorem cellsAn : Tryz.prog.cellsOf 61 = 6 := by kernel_rfl
theorem bytesAn : Tryz.prog.bytesOf 61 = 64 := by kernel_rfl
structure An.fits (W : World) (x : An) : Prop where
  nw : (Lit.int .i64 x.n).wf = true
  hw : (Lit.int .u64 x.h).wf = true
  lw : (Lit.int .u64 x.l).wf = true
  vw : (Lit.int .i64 x.v).wf = true
  cw : (Lit.int .i64 x.c).wf = true
  sw : SlY yE W x.s.a x.s.D.length x.s.c x.s.D
  ew : ∀ e ∈ x.s.D, e.fits
  bw : x.s.D.length * 48 ≤ 140737488351232
theorem An.fits.In {W : World} {x : An} (h : x.fits W) : x.In W := ⟨h.sw, by have := h.bw; omega⟩
theorem open_elAn {H : Type} {enc : TypeId × Value → H} {W : World} {m : Nat} {cs : List Value} {D : DataW H} {q : List MemPlace} (h : DataW.trod enc Tryz.prog W 0 (fun _ => true) true m 61 cs = some (D, q)) (hw : ∀ k, k ∈ D.weights Tryz.prog 61 → k ≤ reachBytes) : ∃ e : An, e.fits W ∧ cs = e.cs := by
  obtain ⟨xs, k, hk, hxy, hlen, hxl, hf⟩ := DataW.trod_struct Tryz.underlying61 h
  rw [cellsAn] at hlen
  have hxl : xs.length = 5 := hxl
  match xs, hxl, cs, hlen with
  | [y0, y1, y2, y3, y4], _, [v0, v1, v2, v3, v4, v5], _ =>
    have g0 := hf 0 _ rfl
    have g1 := hf 1 _ rfl
    have g2 := hf 2 _ rfl
    have g3 := hf 3 _ rfl
    have g4 := hf 4 _ rfl
    simp [intCells, drCells8, slCells8] at g0 g1 g2 g3 g4
    obtain ⟨N, hN, _, wN⟩ := DataW.trod_int Tryz.underlying3 g0
    obtain ⟨a, b, ⟨wa, wb⟩, hdr⟩ := open_drc8 g1
    obtain ⟨V, hV, _, wV⟩ := DataW.trod_int Tryz.underlying3 g2
    obtain ⟨C, hC, _, wC⟩ := DataW.trod_int Tryz.underlying3 g3
    have hd : D = .agg ([y0, y1, y2, y3, y4].map Prod.fst) := congrArg Prod.fst hxy
    obtain ⟨s, es, hs, he, hb⟩ := log_of_trod g4 (fun k hk => hw k (by
      rw [hd]
      simp only [DataW.weights, Tryz.underlying61]
      exact DataW.weights_mem_each (j := 4) (t := 25) rfl rfl k hk))
    refine ⟨⟨N, a, b, V, C, s⟩, ⟨wN, wa, wb, wV, wC, hs, he, hb⟩, ?_⟩
    simp at hN hdr hV hC
    obtain ⟨h1, h2⟩ := hdr
    subst hN h1 h2 hV hC es
    rfl
end Go.Proofs.YtphdnmamopgelaaGreat
namespace Go.Proofs.YtphdnmamopgelaaGreat
open Go.ChangeShapes Go.WideShapes Go.ChangeAt Go.RowKit Go.Maps
open Classical
theorem cfCells : Tryz.prog.cellsOf 23 = 4 := by kernel_rfl
theorem boolCells9 : Tryz.prog.cellsOf 4 = 1 := by kernel_rfl
theorem open_cfg {H : Type} {enc : TypeId × Value → H} {W : World} {base : Nat} {v : Value} {d : DataW H} {p : List MemPlace} (hv : Value.okWide Tryz.prog W .any base 23 v) (h : DataW.Trod enc Tryz.prog W 0 (fun _ => true) true 23 v d p) :
    ∃ x : Cg, v = .agg #[.int .i64 x.F, .int .i64 x.R, .int .i64 x.P, .bool x.u] ∧ True := by
  obtain ⟨cs, rfl, hsz⟩ := okWide_struct Tryz.underlying23 hv
  obtain ⟨fuel, hf⟩ := h
  obtain ⟨xs, k, hk, hxy, hlen, hxl, hf⟩ := DataW.trod_struct Tryz.underlying23 hf
  rw [cfCells] at hlen
  have hxl : xs.length = 4 := hxl
  simp only [Value.cells] at hlen hf
  obtain ⟨l⟩ := cs
  match xs, hxl, l, hlen with
  | [y0, y1, y2, y3], _, [v0, v1, v2, v3], _ =>
    have g0 := hf 0 _ rfl
    have g1 := hf 1 _ rfl
    have g2 := hf 2 _ rfl
    have g3 := hf 3 _ rfl
    simp [intCells, boolCells9] at g0 g1 g2 g3
    obtain ⟨A, hA, _, _⟩ := DataW.trod_int Tryz.underlying3 g0
    obtain ⟨B, hB, _, _⟩ := DataW.trod_int Tryz.underlying3 g1
    obtain ⟨C, hC, _, _⟩ := DataW.trod_int Tryz.underlying3 g2
    obtain ⟨b, hb, _⟩ := DataW.trod_bool Tryz.underlying4 g3
    refine ⟨⟨A, B, C, b⟩, ?_, trivial⟩
    simp at hA hB hC hb
    subst hA hB hC hb
    rfl
theorem drBytes8 : Tryz.prog.bytesOf 57 = 16 := by kernel_rfl
theorem rows_of_trod9 {α : Type} [Inhabited α] {Y : Lay α} (K : Y.Ok) (F : α → Prop) (hT : Tryz.prog.cellsOf Y.T = Y.k) (hby : Tryz.prog.bytesOf Y.T = Y.by_) {H : Type} {enc : TypeId × Value → H} {W : World} {v : Value} {d : DataW H} {p : List MemPlace} {fuel : Nat}
    (hop : ∀ {m : Nat} {cs : List Value} {D : DataW H} {q : List MemPlace}, DataW.trod enc Tryz.prog W 0 (fun _ => true) true m Y.T cs = some (D, q) → (∀ k, k ∈ D.weights Tryz.prog Y.T → k ≤ reachBytes) → ∃ e : α, F e ∧ cs = Y.cs e)
    (h : DataW.trod enc Tryz.prog W 0 (fun _ => true) true fuel Y.ST [v] = some (d, p)) (hw : ∀ m, m ∈ d.weights Tryz.prog Y.ST → m ≤ reachBytes) :
    ∃ a len cap, v = .slice a len cap ∧ ∃ P : List α, SlY Y W a len cap P ∧ (∀ e ∈ P, F e) ∧ len * Y.by_ ≤ 140737488351232 := by
  rcases Go.Deep.open_slice K.und h with ⟨hcs, hx⟩ | ⟨y, n, c, m, k, D, Pl, hcs, hb, hl, hm, hmm, hx, hall⟩
  · have e := (List.cons_eq_cons.1 hcs).1
    exact ⟨none, 0, 0, e, [], ⟨rfl, Nat.le_refl _, by unfold maxLen; omega, fun _ => ⟨rfl, rfl⟩, fun x hx => .inl rfl⟩, by simp, by omega⟩
  · have e := (List.cons_eq_cons.1 hcs).1
    refine ⟨some y, n, c, e, ?_⟩
    have hlm : n ≤ m := by rw [hmm]; split <;> omega
    have hd := congrArg Prod.fst hx
    dsimp only at hd
    have hsz : n * Y.by_ ≤ 140737488351232 := by
      have := hw _ (by
        rw [hd]
        simp only [DataW.weights, K.und, hby]
        exact List.mem_cons_self)
      simp only [List.length_map, List.length_range, reachBytes] at this
      rw [Nat.add_mul] at this
      omega
    have each : ∀ i, i < n → ∃ q : α, F q ∧ (∀ j, j < Y.k → W.cell? ((y.add (i * Y.k)).add j) = (Y.cs q)[j]?) := by
      intro i hi
      obtain ⟨cs', h1, h2⟩ := hall i (by omega)
      rw [hT] at h1
      obtain ⟨q, hf, rfl⟩ := hop h2 (fun k hk => hw k (by
        rw [hd]
        simp only [DataW.weights, K.und]
        exact List.mem_cons_of_mem _ (List.mem_append_left _ (weights_in (List.mem_map_of_mem (List.mem_range.2 hi)) k hk))))
      obtain ⟨_, _, hcell⟩ := World.cells?_some h1
      exact ⟨q, hf, hcell⟩
    obtain ⟨q, hq⟩ := Go.Deep.choose_lt each
    refine ⟨(List.range n).map q, ⟨by simp, hl, hm, (fun e => by cases e), fun x hx => ?_⟩, ?_, hsz⟩
    · cases hx
      by_cases hn0 : n = 0
      · subst hn0
        exact .inl rfl
      · obtain ⟨b, o, s⟩ := y
        have z0 := (hq 0 (by omega)).2 0 K.kp
        have z1 := z0.trans (List.getElem?_eq_getElem (by rw [K.len]; exact K.kp))
        have hs := World.cell?_spot z1
        obtain rfl : s = none := by
          rw [Nat.zero_mul] at hs
          simpa [Addr.add] using hs
        refine .inr ⟨b, o, rfl, ?_, fun i x hx j u hu => ?_⟩
        · rw [Addr.add_lit, Addr.add_lit] at z1
          exact World.block_lt_of_cell? _ _ z1
        · have hi : i < n := by
            have := (List.getElem?_eq_some_iff.1 hx).1
            simpa using this
          have e : q i = x := by
            simp [hi] at hx
            exact hx
          subst e
          have hj : j < Y.k := by have := (List.getElem?_eq_some_iff.1 hu).1; rwa [K.len] at this
          have := (hq i hi).2 j hj
          rw [Addr.add_lit, Addr.add_lit] at this
          exact this.trans hu
    · intro z hz
      obtain ⟨i, hi, rfl⟩ := List.mem_map.1 hz
      exact (hq i (List.mem_range.1 hi)).1
theorem staCells9 : Tryz.prog.cellsOf 33 = 12 := by kernel_rfl
theorem stuCells9 : Tryz.prog.cellsOf 24 = 1 := by kernel_rfl
theorem veCells9 : Tryz.prog.cellsOf 27 = 1 := by kernel_rfl
theorem aksCells9 : Tryz.prog.cellsOf 28 = 1 := by kernel_rfl
theorem mksCells9 : Tryz.prog.cellsOf 29 = 1 := by kernel_rfl
theorem blsCells9 : Tryz.prog.cellsOf 30 = 1 := by kernel_rfl
theorem ansCells9 : Tryz.prog.cellsOf 31 = 1 := by kernel_rfl
theorem akCells9 : Tryz.prog.cellsOf 82 = 4 := by kernel_rfl
theorem akBytes9 : Tryz.prog.bytesOf 82 = 32 := by kernel_rfl
theorem mkCells9 : Tryz.prog.cellsOf 84 = 3 := by kernel_rfl
theorem mkBytes9 : Tryz.prog.bytesOf 84 = 24 := by kernel_rfl
theorem open_mkc9 {H : Type} {enc : TypeId × Value → H} {W : World} {base : Nat} {sp : Nat → Bool} {held : Bool} {n : Nat} {cs : List Value} {x : DataW H × List MemPlace} (h : DataW.trod enc Tryz.prog W base sp held n 84 cs = some x) : ∃ e : Mk, ((Lit.int .i64 e.n).wf = true ∧ (Lit.int .u64 e.h).wf = true ∧ (Lit.int .u64 e.l).wf = true) ∧ cs = yMkA.cs e := by
  obtain ⟨xs, k, hk, hxy, hlen, hxl, hf⟩ := DataW.trod_struct Tryz.underlying84 h
  rw [mkCells9] at hlen
  have hxl : xs.length = 2 := hxl
  match xs, hxl, cs, hlen with
  | [y0, y1], _, [v0, v1, v2], _ =>
    have g0 := hf 0 _ rfl
    have g1 := hf 1 _ rfl
    simp [intCells, drCells8] at g0 g1
    obtain ⟨N, hN, _, wN⟩ := DataW.trod_int Tryz.underlying3 g0
    obtain ⟨a, b, ⟨wa, wb⟩, hdr⟩ := open_drc8 g1
    refine ⟨⟨N, a, b⟩, ⟨wN, wa, wb⟩, ?_⟩
    simp at hN hdr
    obtain ⟨h1, h2⟩ := hdr
    subst hN h1 h2
    rfl
theorem open_akc9 {H : Type} {enc : TypeId × Value → H} {W : World} {base : Nat} {sp : Nat → Bool} {held : Bool} {n : Nat} {cs : List Value} {x : DataW H × List MemPlace} (h : DataW.trod enc Tryz.prog W base sp held n 82 cs = some x) : ∃ e : Ak, ((Lit.int .i64 e.n).wf = true ∧ (Lit.int .u64 e.h).wf = true ∧ (Lit.int .u64 e.l).wf = true ∧ (Lit.int .i64 e.p).wf = true) ∧ cs = yAkA.cs e := by
  obtain ⟨xs, k, hk, hxy, hlen, hxl, hf⟩ := DataW.trod_struct Tryz.underlying82 h
  rw [akCells9] at hlen
  have hxl : xs.length = 3 := hxl
  match xs, hxl, cs, hlen with
  | [y0, y1, y2], _, [v0, v1, v2, v3], _ =>
    have g0 := hf 0 _ rfl
    have g1 := hf 1 _ rfl
    have g2 := hf 2 _ rfl
    simp [intCells, drCells8] at g0 g1 g2
    obtain ⟨N, hN, _, wN⟩ := DataW.trod_int Tryz.underlying3 g0
    obtain ⟨a, b, ⟨wa, wb⟩, hdr⟩ := open_drc8 g1
    obtain ⟨Q, hQ, _, wQ⟩ := DataW.trod_int Tryz.underlying3 g2
    refine ⟨⟨N, a, b, Q⟩, ⟨wN, wa, wb, wQ⟩, ?_⟩
    simp at hN hdr hQ
    obtain ⟨h1, h2⟩ := hdr
    subst hN h1 h2 hQ
    rfl
structure Sta.Came (W : World) (s : Sta) : Prop where
  inn : s.In W
  fit : s.Fit
  hb1 : ∀ x ∈ s.B, x.s.D.length * 48 ≤ 140737488351232
  hb2 : ∀ x ∈ s.N, x.s.D.length * 48 ≤ 140737488351232
  w0 : (Lit.int .i64 s.self).wf = true
  w1 : (Lit.int .i64 s.st).wf = true
  w2 : (Lit.int .i64 s.view).wf = true
  w3 : (Lit.int .i64 s.last).wf = true
  w5 : (Lit.int .i64 s.commit).wf = true
  w7 : (Lit.int .i64 s.idle).wf = true
  wv : ∀ d ∈ s.V, (Lit.int .u64 d.1).wf = true ∧ (Lit.int .u64 d.2).wf = true
  wa : ∀ e ∈ s.A, (Lit.int .i64 e.n).wf = true ∧ (Lit.int .u64 e.h).wf = true ∧ (Lit.int .u64 e.l).wf = true ∧ (Lit.int .i64 e.p).wf = true
  wm : ∀ e ∈ s.M, (Lit.int .i64 e.n).wf = true ∧ (Lit.int .u64 e.h).wf = true ∧ (Lit.int .u64 e.l).wf = true
  wb : ∀ x ∈ s.B, x.fits W
  wn : ∀ x ∈ s.N, x.fits W
theorem open_state9 {H : Type} {enc : TypeId × Value → H} {W : World} {base : Nat} {v : Value} {d : DataW H} {p : List MemPlace} (hv : Value.okWide Tryz.prog W .any base 33 v) (h : DataW.Trod enc Tryz.prog W 0 (fun _ => true) true 33 v d p)
    (hw : ∀ m, m ∈ d.weights Tryz.prog 33 → m ≤ reachBytes) : ∃ s : Sta, v = s.val ∧ s.Came W := by
  haveI : Inhabited Bl := ⟨⟨0, 0, 0, 0, 0, ⟨none, 0, []⟩⟩⟩
  haveI : Inhabited An := ⟨⟨0, 0, 0, 0, 0, ⟨none, 0, []⟩⟩⟩
  haveI : Inhabited Ak := ⟨⟨0, 0, 0, 0⟩⟩
  haveI : Inhabited Mk := ⟨⟨0, 0, 0⟩⟩
  haveI : Inhabited En := ⟨⟨0, 0, ⟨0, 0, ⟨#[]⟩⟩⟩⟩
  obtain ⟨cs, rfl, hsz⟩ := okWide_struct Tryz.underlying33 hv
  obtain ⟨fuel, hf⟩ := h
  obtain ⟨xs, k, hk, hxy, hlen, hxl, hf⟩ := DataW.trod_struct Tryz.underlying33 hf
  rw [staCells9] at hlen
  have hxl : xs.length = 12 := hxl
  simp only [Value.cells] at hlen hf
  obtain ⟨l⟩ := cs
  match xs, hxl, l, hlen with
  | [y0, y1, y2, y3, y4, y5, y6, y7, y8, y9, y10, y11], _, [v0, v1, v2, v3, v4, v5, v6, v7, v8, v9, v10, v11], _ =>
    have hd : d = .agg ([y0, y1, y2, y3, y4, y5, y6, y7, y8, y9, y10, y11].map Prod.fst) := congrArg Prod.fst hxy
    have wg : ∀ (j : Nat) (t : TypeId) (x : DataW H), [3, 24, 3, 3, 25, 3, 27, 3, 28, 29, 30, 31][j]? = some t → ([y0, y1, y2, y3, y4, y5, y6, y7, y8, y9, y10, y11].map Prod.fst)[j]? = some x → ∀ k, k ∈ x.weights Tryz.prog t → k ≤ reachBytes := fun j t x ht hx k hk => hw k (by
      rw [hd]
      simp only [DataW.weights, Tryz.underlying33]
      exact DataW.weights_mem_each (j := j) (t := t) ht hx k hk)
    have g0 := hf 0 _ rfl
    have g1 := hf 1 _ rfl
    have g2 := hf 2 _ rfl
    have g3 := hf 3 _ rfl
    have g4 := hf 4 _ rfl
    have g5 := hf 5 _ rfl
    have g6 := hf 6 _ rfl
    have g7 := hf 7 _ rfl
    have g8 := hf 8 _ rfl
    have g9 := hf 9 _ rfl
    have g10 := hf 10 _ rfl
    have g11 := hf 11 _ rfl
    simp [intCells, stuCells9, slCells8, veCells9, aksCells9, mksCells9, blsCells9, ansCells9] at g0 g1 g2 g3 g4 g5 g6 g7 g8 g9 g10 g11
    obtain ⟨z0, e0, _, c0⟩ := DataW.trod_int Tryz.underlying3 g0
    obtain ⟨z1, e1, _, c1⟩ := DataW.trod_int Tryz.underlying24 g1
    obtain ⟨z2, e2, _, c2⟩ := DataW.trod_int Tryz.underlying3 g2
    obtain ⟨z3, e3, _, c3⟩ := DataW.trod_int Tryz.underlying3 g3
    obtain ⟨z5, e5, _, c5⟩ := DataW.trod_int Tryz.underlying3 g5
    obtain ⟨z7, e7, _, c7⟩ := DataW.trod_int Tryz.underlying3 g7
    obtain ⟨s4, e4, hl4, hf4, hb4⟩ := log_of_trod g4 (wg 4 _ _ rfl rfl)
    obtain ⟨a6, n6, c6, e6, P6, hl6, hf6, hb6⟩ := rows_of_trod9 (Y := yD) kD (fun d => (Lit.int .u64 d.1).wf = true ∧ (Lit.int .u64 d.2).wf = true) drCells8 drBytes8 (fun h _ => by
      obtain ⟨x, y, hxy, e⟩ := open_drc8 h
      exact ⟨(x, y), hxy, e⟩) g6 (wg 6 _ _ rfl rfl)
    obtain ⟨a8, n8, c8, e8, P8, hl8, hf8, hb8⟩ := rows_of_trod9 (Y := yAkA) kAkA _ akCells9 akBytes9 (fun h _ => open_akc9 h) g8 (wg 8 _ _ rfl rfl)
    obtain ⟨a9, n9, c9, e9, P9, hl9, hf9, hb9⟩ := rows_of_trod9 (Y := yMkA) kMkA _ mkCells9 mkBytes9 (fun h _ => open_mkc9 h) g9 (wg 9 _ _ rfl rfl)
    obtain ⟨a10, n10, c10, e10, P10, hl10, hf10, hb10⟩ := rows_of_trod9 (Y := yBlA) kBlA (fun e => e.fits W) cellsBl bytesBl (fun h hw => open_elBl h hw) g10 (wg 10 _ _ rfl rfl)
    obtain ⟨a11, n11, c11, e11, P11, hl11, hf11, hb11⟩ := rows_of_trod9 (Y := yAnA) kAnA (fun e => e.fits W) cellsAn bytesAn (fun h hw => open_elAn h hw) g11 (wg 11 _ _ rfl rfl)
    simp at e0 e1 e2 e3 e5 e7
    subst e0 e1 e2 e3 e4 e5 e6 e7 e8 e9 e10 e11
    obtain rfl : n6 = P6.length := hl6.len.symm
    obtain rfl : n8 = P8.length := hl8.len.symm
    obtain rfl : n9 = P9.length := hl9.len.symm
    obtain rfl : n10 = P10.length := hl10.len.symm
    obtain rfl : n11 = P11.length := hl11.len.symm
    refine ⟨⟨z0, z1, z2, z3, s4.a, s4.c, s4.D, z5, a6, c6, P6, z7, a8, c8, P8, a9, c9, P9, a10, c10, P10, a11, c11, P11⟩, rfl, ?_⟩
    exact ⟨⟨hl4, hl6, hl8, hl9, hl10, hl11, fun x hx => (hf10 x hx).In, fun x hx => (hf11 x hx).In⟩, ⟨hf4, fun x hx => (hf10 x hx).ew, fun x hx => (hf11 x hx).ew, by show s4.D.length * 48 ≤ _; omega, by show P6.length * 16 ≤ _; simp only [yD] at hb6; omega, by show P8.length * 32 ≤ _; simp only [yAkA] at hb8; omega, by show P9.length * 24 ≤ _; simp only [yMkA] at hb9; omega, by show P10.length * 64 ≤ _; simp only [yBlA] at hb10; omega, by show P11.length * 64 ≤ _; simp only [yAnA] at hb11; omega⟩, fun x hx => (hf10 x hx).bw, fun x hx => (hf11 x hx).bw, c0, c1, c2, c3, c5, c7, hf6, hf8, hf9, hf10, hf11⟩
end Go.Proofs.YtphdnmamopgelaaGreat
namespace Go.Proofs.YtphdnmamopgelaaGreat
open Go.RowKit Go.Maps
open Classical
theorem waits_came9 (c : Cg) (s : Sta) (W : World) (h : s.Came W) :
    Calls Tryz.prog 3 #[.agg #[.int .i64 c.F, .int .i64 c.R, .int .i64 c.P, .bool c.u], s.val] W fun e w' => e = .returned (.bool true) ∧ Below W.heap.size W w' :=
  waits9 c s W h.inn h.fit h.hb1 h.hb2
end Go.Proofs.YtphdnmamopgelaaGreat
