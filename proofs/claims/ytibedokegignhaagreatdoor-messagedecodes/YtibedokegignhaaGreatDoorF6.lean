import Derived.Test.YtibedokegignhaaGreatDoorRows
import Derived.Lib.LaidTab
import Derived.MakeChecks
import Derived.ChangeOld
import Derived.ProofKit
import Derived.OpenShut
import Derived.Deep.SlicePairs
import Derived.SizedLaws
import Derived.Test.YtibedokegignhaaGreatDoorF5
set_option maxRecDepth 100000
set_option linter.unusedVariables false
set_option linter.unusedSimpArgs false
namespace Go.Proofs.YtibedokegignhaaGreatDoor
open Go.RowKit Go.Maps
open Classical
theorem vh_twoR {ops : Array Oper} {o o2 : Oper} {T : Array Value} {df : List Deferred} {w : World} {Q : Exit → Act → World → Prop} {S : World → Prop} {fuel d d2 n : Nat} {listed : Array Bool} (j i : Nat) {fid : FuncId} {args : Array Value} {R : Ending → World → Prop} (hr : Region.ready .any ops listed = [j, i]) (hi : ops[i]? = some o) (hj : ops[j]? = some o2)
    (hw : Region.wanted o (yielded ops T) = true) (he : (execOp (⟨T, df⟩ : Act).eval o).run Tryz.prog w = .ok (.enter fid args) w) (hc : Calls Tryz.prog fid args w R) (hd : o.dst = some d) (hz : T.size = n) (hn : d < n)
    (hk : ∀ (e : Ending) (w' : World), R e w' → ∃ V, e = .returned V ∧ S w' ∧ ∀ T' : Array Value, T'.size = n → (∀ j, j ≠ d → T'[j]? = T[j]?) → T'[d]? = some (gw true V) → VH ops Q S fuel (listed.setIfInBounds i true) ⟨T', df⟩ w')
    (V : Value) (w2 : World) (hw2 : Region.wanted o2 (yielded ops T) = true) (he2 : (execOp (⟨T, df⟩ : Act).eval o2).run Tryz.prog w = .ok (.value V) w2) (hd2 : o2.dst = some d2) (hn2 : d2 < n) (hS2 : S w2)
    (hk2 : ∀ T' : Array Value, T'.size = n → (∀ j, j ≠ d2 → T'[j]? = T[j]?) → T'[d2]? = some (gw true V) → VH ops Q S fuel (listed.setIfInBounds j true) ⟨T', df⟩ w2) : VH ops Q S (fuel + 1) listed ⟨T, df⟩ w := by
  refine ⟨wpAnyH_all hr (by simp) (fun k hkm => ?_)⟩
  have hkm : k = j ∨ k = i := by simpa using hkm
  rcases hkm with rfl | rfl
  · unfold wpOp
    rw [hj]
    simp only [hw2, if_true]
    refine .inl ?_
    unfold Oper.wp
    rw [he2, Oper.upon_value]
    refine ⟨hS2, ?_⟩
    rw [hd2]
    exact (hk2 (T.setIfInBounds d2 V) (by simp [hz]) (fun i hi => at_set_ne _ hi) (at_set _ (by omega))).out
  · unfold wpOp
    rw [hi]
    simp only [hw, if_true]
    refine .inl ?_
    unfold Oper.wp
    rw [he, Oper.upon_enter]
    refine hc.mono ?_
    intro e w' hR
    obtain ⟨V, rfl, hS, hk'⟩ := hk e w' hR
    refine ⟨hS, ?_⟩
    rw [hd]
    exact (hk' (T.setIfInBounds d V) (by simp [hz]) (fun i hi => at_set_ne _ hi) (at_set _ (by omega))).out
theorem QD.ldErr9 {N : Nat} {w w' : World} {b q : Nat} {l : List Int} {s : Nat × Int} (h : QD N w b l s) (u : UB q w w') (hq : ¬ b = q) : (Instr.loadAt 3 (.pointer (some ⟨b, 2, none⟩))).run Tryz.prog w' = .ok (.int .i64 s.2) w' := by
  obtain ⟨a, n, c, k, _⟩ := h
  have h2 := (u.cell (p := ⟨b, 2, none⟩) k.lt hq).trans k.c2
  clear k
  go_simp
theorem rcL (l : List Int) (k : Nat) (x : Rst) (h : x.L = []) : ∀ j, j ≤ 8 → (rCols l k x j).L = []
  | 0, _ => h
  | j + 1, hj => by
    have ih := rcL l k x h j (by omega)
    by_cases ht : tabA k j = 0
    · rw [rCols_none ht]; exact ih
    · rw [rCols_some ht]
      generalize rCols l k x j = y at *
      have : j = 0 ∨ j = 1 ∨ j = 2 ∨ j = 3 ∨ j = 4 ∨ j = 5 ∨ j = 6 ∨ j = 7 := by omega
      rcases this with rfl | rfl | rfl | rfl | rfl | rfl | rfl | rfl
      all_goals first | exact ih | (rw [rCol6]; exact ih)
theorem rcD (l : List Int) (k : Nat) (x : Rst) (h : x.D = []) : ∀ j, j ≤ 9 → (rCols l k x j).D = []
  | 0, _ => h
  | j + 1, hj => by
    have ih := rcD l k x h j (by omega)
    by_cases ht : tabA k j = 0
    · rw [rCols_none ht]; exact ih
    · rw [rCols_some ht]
      generalize rCols l k x j = y at *
      have : j = 0 ∨ j = 1 ∨ j = 2 ∨ j = 3 ∨ j = 4 ∨ j = 5 ∨ j = 6 ∨ j = 7 ∨ j = 8 := by omega
      rcases this with rfl | rfl | rfl | rfl | rfl | rfl | rfl | rfl | rfl
      all_goals first | exact ih | (rw [rCol6]; exact ih)
theorem gupd9 {w w' : World} {row : Option Nat} (h : w.grownBy w' row) : Upd (fun k => row = some k) w w' :=
  ⟨h.os, h.tape, h.output, h.size, fun k hk hs => h.block k hk (fun e => hs e.symm)⟩
theorem apart9 {α β : Type} {Y : Lay α} {Y' : Lay β} {B B' : Nat} {w : World} {v v' : Value} {l : List α} {l' : List β} (h : OwnY Y B w v l) (h' : OwnY Y' B' w v' l') (hT : Y.T ≠ Y'.T) : ∀ g, v.ownBlock = some g → v'.ownBlock = some g → False := fun g h1 h2 => OwnY.apart h h' hT g h1 h2
theorem CfB.upd9 {S : Nat → Prop} {w w' : World} {q : Nat} {c : Cf} (h : CfB w q c) (u : Upd S w w') (hs : ¬ S q) : CfB w' q c := ⟨Nat.lt_of_lt_of_le h.lt u.size, fun i x hx => (u.cell (p := ⟨q, i, none⟩) h.lt hs).trans (h.cell i x hx)⟩
theorem vh_pair {ops : Array Oper} {o o2 : Oper} {T : Array Value} {df : List Deferred} {w : World} {Q : Exit → Act → World → Prop} {S : World → Prop} {fuel d d2 n : Nat} {listed : Array Bool} (j i : Nat) (hr : Region.ready .any ops listed = [j, i]) (hj : ops[j]? = some o2) (hi : ops[i]? = some o) (hz : T.size = n)
    (V : Value) (hw2 : Region.wanted o2 (yielded ops T) = true) (he2 : (execOp (⟨T, df⟩ : Act).eval o2).run Tryz.prog w = .ok (.value V) w) (hd2 : o2.dst = some d2) (hn2 : d2 < n) (hS2 : S w)
    (U : Value) (w1 : World) (hw : Region.wanted o (yielded ops T) = true) (he : (execOp (⟨T, df⟩ : Act).eval o).run Tryz.prog w = .ok (.value U) w1) (hd : o.dst = some d) (hn : d < n) (hS : S w1)
    (hk2 : ∀ T' : Array Value, T'.size = n → (∀ j, j ≠ d2 → T'[j]? = T[j]?) → T'[d2]? = some (gw true V) → VH ops Q S fuel (listed.setIfInBounds j true) ⟨T', df⟩ w)
    (hk : ∀ T' : Array Value, T'.size = n → (∀ j, j ≠ d → T'[j]? = T[j]?) → T'[d]? = some (gw true U) → VH ops Q S fuel (listed.setIfInBounds i true) ⟨T', df⟩ w1) : VH ops Q S (fuel + 1) listed ⟨T, df⟩ w := by
  refine ⟨wpAnyH_all hr (by simp) (fun k hkm => ?_)⟩
  have hkm : k = j ∨ k = i := by simpa using hkm
  rcases hkm with rfl | rfl
  · unfold wpOp
    rw [hj]
    simp only [hw2, if_true]
    refine .inl ?_
    unfold Oper.wp
    rw [he2, Oper.upon_value]
    refine ⟨hS2, ?_⟩
    rw [hd2]
    exact (hk2 (T.setIfInBounds d2 V) (by simp [hz]) (fun i hi => at_set_ne _ hi) (at_set _ (by omega))).out
  · unfold wpOp
    rw [hi]
    simp only [hw, if_true]
    refine .inl ?_
    unfold Oper.wp
    rw [he, Oper.upon_value]
    refine ⟨hS, ?_⟩
    rw [hd]
    exact (hk (T.setIfInBounds d U) (by simp [hz]) (fun i hi => at_set_ne _ hi) (at_set _ (by omega))).out
set_option maxHeartbeats 16000000 in
theorem refdecode7 (c : Cf) (a : Option Addr) (n c_ : Nat) (f : List Int) (w : World) (hH : Wi.Hs w a n c_ f) (hm : n ≤ 140737488355328) :
    Calls Tryz.prog 21 #[c.val, .slice a n c_] w fun e w' => ∃ s t, e = .returned (.tuple #[(dcM c f).1.m.val s t, .int .i64 (dcM c f).2]) ∧ OwnY yE w.heap.size w' s (dcM c f).1.L ∧ OwnY yD w.heap.size w' t (dcM c f).1.D ∧ Below w.heap.size w w' := by
  have hby := op_byte hH.byte
  go_enter Tryz.func21, Tryz.ntmps21
  go_upto_region 0 with fail
  refine wp_region_lit ?_
  refine vl_gen (fun T => T.size = 169 ∧ T[0]? = some (gw true (.agg #[.int .i64 c.f, .int .i64 c.r, .int .i64 c.p, .bool c.u])) ∧ T[1]? = some (gw true (.slice a n c_))) ⟨rfl, rfl, rfl⟩ (fun Z0 ⟨hz, s0, s1⟩ => ?_)
  obtain ⟨w0, hw0⟩ : ∃ y, y = w.alloc (.cells #[.int .i64 c.f, .int .i64 c.r, .int .i64 c.p, .bool c.u] 23) := ⟨_, rfl⟩
  have hs0 : w0.heap.size = w.heap.size + 1 := by rw [hw0]; simp
  have hB0 : Below w.heap.size w w0 := by rw [hw0]; exact (Below.refl _ _).alloc (Nat.le_refl _) _
  have Cc0 : CfB w0 w.heap.size c := ⟨by omega, fun i x hx => by rw [hw0]; exact cell_box _ _ _ _ _ (by simpa using hx)⟩
  obtain ⟨w1, hw1⟩ : ∃ y, y = w0.alloc (.cells (zG.cs nilS nilS).toArray 38) := ⟨_, rfl⟩
  have hb : Below w0.heap.size w0 w1 := by rw [hw1]; exact (Below.refl _ _).alloc (Nat.le_refl _) _
  have hs1 : w1.heap.size = w.heap.size + 2 := by rw [hw1]; simp; omega
  have M0 : MBox w1 (w.heap.size + 1) zG nilS nilS := by rw [hw1, ← hs0]; exact MBox.new0 w0
  have hB : Below w.heap.size w w1 := hB0.trans (hb.mono hB0.size)
  have Cc := Cc0.bel hb
  refine vw (.pointer (some ⟨w.heap.size, 0, none⟩)) w0 (want_none rfl) (ex_box rfl (ev s0 rfl) (by rw [hw0]; exact bxCf _ _ _ _ _)) rfl hz (by decide) (fun Ya zz kk s2 => ?_)
  replace s1 := ku s1
  replace hz := zz
  clear kk zz s0
  refine vw (.pointer (some ⟨(w.heap.size + 1), 0, none⟩)) w1 (want_none rfl) (ex_al rfl (by rw [hw1, ← hs0]; exact alM _)) rfl hz (by decide) (fun Yb zz kk s4 => ?_)
  replace s1 := ku s1
  replace s2 := ku s2
  replace hz := zz
  clear kk zz Ya
  refine vt (.int .i64 0) (ex_assign rfl rfl) hz (fun Yc zz kk s5 => ?_)
  replace s1 := ku s1
  replace s2 := ku s2
  replace s4 := ku s4
  replace hz := zz
  clear kk zz Yb
  refine wpList_nil ?_
  clear hw0 hw1 Cc0 hB0 hb
  have HH := Wi.Hs.later hH hB
  clear hs0
  go_upto_region 1 with fail
  refine wp_region_lit ?_
  refine vt (.agg #[.int .i64 c.f, .int .i64 c.r, .int .i64 c.p, .bool c.u]) (ex_ld rfl (ev s2 rfl) Cc.ldAll) hz (fun Yd zz kk s18 => ?_)
  replace s1 := ku s1
  replace s2 := ku s2
  replace s4 := ku s4
  replace hz := zz
  clear kk zz s5
  refine vcallP (want_none rfl) (ex_call rfl (by simp only [List.map_toArray, List.map_cons, List.map_nil, (ev s18 rfl), evc] <;> rfl) rfl) (refConfig7 c w1) rfl hz (by decide) ?_
  rintro e y1 ⟨rfl, hb⟩; have hz1 := hb.size
  refine ⟨_, rfl, fun Ye zz kk s19 => ?_⟩
  replace Cc := Cc.bel hb
  replace M0 := M0.bel hb
  replace hB := hB.trans (hb.mono hB.size)
  replace HH := HH.later hb
  clear hb
  replace s1 := ku s1
  replace s2 := ku s2
  replace s4 := ku s4
  replace hz := zz
  clear kk zz s18 Yd
  refine vt (.bool (!(cfB c))) (ex_not rfl (ev s19 rfl)) hz (fun Yf zz kk s20 => ?_)
  replace s1 := ku s1
  replace s2 := ku s2
  replace s4 := ku s4
  replace hz := zz
  clear kk zz s19 Ye
  refine wpList_nil ?_
  go_upto_region 3 with fail
  cases hcf : cfB c
  · rw [hcf] at s20
    refine wp_cond_true ((ev s20 rfl).trans rfl) ?_
    clear s20
    have VV : dcM c f = (⟨zG, [], [], (0, 0)⟩, 1) := by unfold dcM; rw [if_pos hcf]
    go_upto_region 2 with fail
    refine wp_region_lit ?_
    refine vt (zG.val nilS nilS) (ex_build rfl (bdM0 _)) hz (fun Yg zz kk s21 => ?_)
    replace s4 := ku s4
    replace hz := zz
    clear kk zz s1 s2
    refine vs (sets y1 (w.heap.size + 1) 0 (zG.cs nilS nilS)) (want_none rfl) (ex_st rfl (ev s4 rfl) (ev s21 rfl) (stM M0 zG nilS nilS rfl rfl)) rfl ?_
    have SPz := M0.putU zG nilS nilS
    obtain ⟨v1, hv1⟩ : ∃ y, y = sets y1 (w.heap.size + 1) 0 (zG.cs nilS nilS) := ⟨_, rfl⟩
    rw [← hv1] at SPz ⊢
    clear hv1
    refine vt (.int .i64 1) (ex_assign rfl rfl) hz (fun Yh zz kk s5 => ?_)
    replace s4 := ku s4
    replace hz := zz
    clear kk zz s21 Yg
    refine wpList_nil ?_
    have hfin : Below w.heap.size w v1 := hB.trans (SPz.2.below hB.size (by omega))
    go_wp2
    refine bodyPost_msg rfl s4 s5 SPz.1 ?_
    rw [VV]
    exact ⟨_, _, rfl, OwnY.nil _ _ _, OwnY.nil _ _ _, hfin⟩
  rw [hcf] at s20
  refine wp_cond_false ((ev s20 rfl).trans rfl) ?_
  clear s20
  go_upto_region 3 with fail
  refine wp_region_lit ?_
  refine vt _ (ex_move rfl (ev s1 rfl)) hz (fun Yi zz kk s23 => ?_)
  replace s2 := ku s2
  replace s4 := ku s4
  replace hz := zz
  clear kk zz s1
  refine vcallP (want_none rfl) (ex_call rfl (by simp only [List.map_toArray, List.map_cons, List.map_nil, (ev s23 rfl), evc] <;> rfl) rfl) (Wi.ro_any a n c_ f y1 HH) rfl hz (by decide) ?_
  rintro e y2 ⟨vb, rfl, OB, hb⟩; have hz2 := hb.size; obtain ⟨ba, bn, bc, hvb, hsB, _⟩ := Wi.Own.hs OB hby; subst hvb
  refine ⟨_, rfl, fun Yj zz kk s24 => ?_⟩
  replace Cc := Cc.bel hb
  replace M0 := M0.bel hb
  replace hB := hB.trans (hb.mono hB.size)
  clear hb
  replace s2 := ku s2
  replace s4 := ku s4
  replace hz := zz
  clear kk zz s23 Yi
  refine vt _ (ex_move rfl (ev s24 rfl)) hz (fun Yk zz kk s22 => ?_)
  replace s2 := ku s2
  replace s4 := ku s4
  replace hz := zz
  clear kk zz s24 Yj
  refine vt (.slice ba bn bc) (ex_ext rfl (ev s22 rfl) rfl) hz (fun Yl zz kk s25 => ?_)
  replace s2 := ku s2
  replace s4 := ku s4
  replace s22 := ku s22
  replace hz := zz
  clear kk zz Yk
  refine vt (.int .i64 (Wi.opErr f)) (ex_ext rfl (ev s22 rfl) rfl) hz (fun Ym zz kk s26 => ?_)
  replace s2 := ku s2
  replace s4 := ku s4
  replace s25 := ku s25
  replace hz := zz
  clear kk zz s22 Yl
  refine vt _ (ex_assign rfl (ev s25 rfl)) hz (fun Yn zz kk s6 => ?_)
  replace s2 := ku s2
  replace s4 := ku s4
  replace s26 := ku s26
  replace hz := zz
  clear kk zz s25 Ym
  refine vt _ (ex_assign rfl (ev s26 rfl)) hz (fun Yo zz kk s7 => ?_)
  replace s2 := ku s2
  replace s4 := ku s4
  replace s6 := ku s6
  replace hz := zz
  clear kk zz s26 Yn
  refine wpList_nil ?_
  go_upto_region 4 with fail
  refine wp_region_lit ?_
  refine vt _ (ex_move rfl (ev s7 rfl)) hz (fun Yp zz kk s27 => ?_)
  replace s2 := ku s2
  replace s4 := ku s4
  replace s6 := ku s6
  replace s7 := ku s7
  replace hz := zz
  clear kk zz
  refine vt (.bool (!decide ((Wi.opErr f) = 0))) (ex_bin rfl (ev s27 rfl) rfl (neqC _ _ _ _ _)) hz (fun Yq zz kk s28 => ?_)
  replace s2 := ku s2
  replace s4 := ku s4
  replace s6 := ku s6
  replace s7 := ku s7
  replace hz := zz
  clear kk zz s27 Yp
  refine wpList_nil ?_
  go_upto_region 6 with fail
  cases hop : !decide (Wi.opErr f = 0)
  rotate_left
  · rw [hop] at s28
    refine wp_cond_true ((ev s28 rfl).trans rfl) ?_
    clear s28
    have hne : ¬ Wi.opErr f = 0 := by simpa using hop
    have VV : dcM c f = (⟨zG, [], [], (0, 0)⟩, Wi.opErr f) := by unfold dcM; rw [if_neg (by simp [hcf]), if_pos hne]
    go_upto_region 5 with fail
    refine wp_region_lit ?_
    refine vt (zG.val nilS nilS) (ex_build rfl (bdM0 _)) hz (fun Yr zz kk s29 => ?_)
    replace s4 := ku s4
    replace s7 := ku s7
    replace hz := zz
    clear kk zz s2 s6
    refine vt _ (ex_move rfl (ev s7 rfl)) hz (fun Ys zz kk s30 => ?_)
    replace s4 := ku s4
    replace s29 := ku s29
    replace hz := zz
    clear kk zz s7 Yr
    refine vs (sets y2 (w.heap.size + 1) 0 (zG.cs nilS nilS)) (want_none rfl) (ex_st rfl (ev s4 rfl) (ev s29 rfl) (stM M0 zG nilS nilS rfl rfl)) rfl ?_
    have SPz := M0.putU zG nilS nilS
    obtain ⟨v1, hv1⟩ : ∃ y, y = sets y2 (w.heap.size + 1) 0 (zG.cs nilS nilS) := ⟨_, rfl⟩
    rw [← hv1] at SPz ⊢
    clear hv1
    refine vt _ (ex_assign rfl (ev s30 rfl)) hz (fun Yt zz kk s5 => ?_)
    replace s4 := ku s4
    replace hz := zz
    clear kk zz s29 s30 Ys
    refine wpList_nil ?_
    have hfin : Below w.heap.size w v1 := hB.trans (SPz.2.below hB.size (by omega))
    go_wp2
    refine bodyPost_msg rfl s4 s5 SPz.1 ?_
    rw [VV]
    exact ⟨_, _, rfl, OwnY.nil _ _ _, OwnY.nil _ _ _, hfin⟩
  rw [hop] at s28
  refine wp_cond_false ((ev s28 rfl).trans rfl) ?_
  clear s28
  have hop0 : Wi.opErr f = 0 := by simpa using hop
  clear hop
  clear s7
  obtain ⟨b, hbq⟩ : ∃ b, b = y2.heap.size := ⟨_, rfl⟩
  obtain ⟨l, hl⟩ : ∃ l, l = Wi.opBody f := ⟨_, rfl⟩
  obtain ⟨y3, hy3⟩ : ∃ y, y = y2.alloc (.cells #[.slice ba bn bc, .int .i64 0, .int .i64 0] 122) := ⟨_, rfl⟩
  have Q3 : QD (b + 1) y3 b l (0, 0) := by rw [hy3, hbq, hl]; exact QD.new OB hby (by have := op_len f; have := hH.len; omega)
  have hb : Below y2.heap.size y2 y3 := by rw [hy3]; exact (Below.refl _ _).alloc (Nat.le_refl _) _
  have hz3 : y3.heap.size = b + 1 := by rw [hy3, hbq]; simp
  have hbz : w.heap.size + 2 ≤ b := by omega
  go_upto_region 6 with fail
  refine wp_region_lit ?_
  refine vt _ (ex_move rfl (ev s6 rfl)) hz (fun Yu zz kk s31 => ?_)
  replace s2 := ku s2
  replace s4 := ku s4
  replace hz := zz
  clear kk zz s6
  refine vt (.agg #[.slice ba bn bc, .int .i64 0, .int .i64 0]) (ex_buildP rfl (by simp only [List.map_toArray, List.map_cons, List.map_nil, (ev s31 rfl)] <;> rfl) (bdQ _ _ _ _)) hz (fun Yv zz kk s32 => ?_)
  replace s2 := ku s2
  replace s4 := ku s4
  replace hz := zz
  clear kk zz s31 Yu
  refine vw (.pointer (some ⟨b, 0, none⟩)) y3 (want_none rfl) (ex_box rfl (ev s32 rfl) (by rw [hy3, hbq]; exact bxQ _ _ _ _)) rfl hz (by decide) (fun Yw zz kk s33 => ?_)
  replace Cc := Cc.bel hb
  replace M0 := M0.bel hb
  replace hB := hB.trans (hb.mono hB.size)
  clear hb
  replace s2 := ku s2
  replace s4 := ku s4
  replace hz := zz
  clear kk zz s32 Yv
  refine vt _ (ex_assign rfl (ev s33 rfl)) hz (fun Yx zz kk s8 => ?_)
  replace s2 := ku s2
  replace s4 := ku s4
  replace hz := zz
  clear kk zz s33 Yw
  refine wpList_nil ?_
  clear hy3 OB hsB hbq
  go_upto_region 7 with fail
  refine wp_region_lit ?_
  refine vt _ (ex_move rfl (ev s8 rfl)) hz (fun Yy zz kk s34 => ?_)
  replace s2 := ku s2
  replace s4 := ku s4
  replace s8 := ku s8
  replace hz := zz
  clear kk zz
  refine vcallP (want_none rfl) (ex_call rfl (by simp only [List.map_toArray, List.map_cons, List.map_nil, (ev s34 rfl), evc] <;> rfl) rfl) (qd_I (b + 1) b mxI (Int.le_refl _) l (0, 0) y3 Q3) rfl hz (by decide) ?_
  rintro e y4 ⟨rfl, Q4, hu4⟩; have hz4 := hu4.size
  refine ⟨_, rfl, fun Yz zz kk s35 => ?_⟩
  replace Cc := Cc.upd9 hu4 (by omega)
  replace M0 := M0.upd hu4 (by omega)
  replace hB := hB.trans (hu4.below hB.size (by omega))
  clear hu4 Q3
  replace s2 := ku s2
  replace s4 := ku s4
  replace s8 := ku s8
  replace hz := zz
  clear kk zz s34 Yy
  refine vt _ (ex_assign rfl (ev s35 rfl)) hz (fun Y0 zz kk s9 => ?_)
  replace s2 := ku s2
  replace s4 := ku s4
  replace s8 := ku s8
  replace hz := zz
  clear kk zz s35 Yz
  refine wpList_nil ?_
  go_upto_region 8 with fail
  refine wp_region_lit ?_
  refine vt _ (ex_move rfl (ev s8 rfl)) hz (fun Y1 zz kk s36 => ?_)
  replace s2 := ku s2
  replace s4 := ku s4
  replace s8 := ku s8
  replace s9 := ku s9
  replace hz := zz
  clear kk zz
  refine vt (.pointer (some ⟨b, 0, none⟩)) (ex_nil rfl (ev s36 rfl)) hz (fun Y2 zz kk s37 => ?_)
  replace s2 := ku s2
  replace s4 := ku s4
  replace s8 := ku s8
  replace s9 := ku s9
  replace hz := zz
  clear kk zz s36 Y1
  refine vt (.pointer (some ⟨b, 2, none⟩)) (ex_fa rfl (ev s37 rfl) (faErr _ _)) hz (fun Y3 zz kk s38 => ?_)
  replace s2 := ku s2
  replace s4 := ku s4
  replace s8 := ku s8
  replace s9 := ku s9
  replace hz := zz
  clear kk zz s37 Y2
  refine vt (.int .i64 (sI mxI l (0, 0)).2) (ex_ld rfl (ev s38 rfl) Q4.ldErr) hz (fun Y4 zz kk s39 => ?_)
  replace s2 := ku s2
  replace s4 := ku s4
  replace s8 := ku s8
  replace s9 := ku s9
  replace hz := zz
  clear kk zz s38 Y3
  refine vt (.bool (!decide ((sI mxI l (0, 0)).2 = 0))) (ex_bin rfl (ev s39 rfl) rfl (neqC _ _ _ _ _)) hz (fun Y5 zz kk s40 => ?_)
  replace s2 := ku s2
  replace s4 := ku s4
  replace s8 := ku s8
  replace s9 := ku s9
  replace hz := zz
  clear kk zz s39 Y4
  refine wpList_nil ?_
  go_upto_region 10 with fail
  cases hse : !decide ((sI mxI l (0, 0)).2 = 0)
  rotate_left
  · rw [hse] at s40
    refine wp_cond_true ((ev s40 rfl).trans rfl) ?_
    clear s40
    have hne : ¬ (sI mxI l (0, 0)).2 = 0 := by simpa using hse
    have VV : dcM c f = (⟨zG, [], [], (0, 0)⟩, (sI mxI l (0, 0)).2) := by
      have hr : rdM l = (⟨zG, [], [], (0, 0)⟩, (sI mxI l (0, 0)).2) := by unfold rdM; rw [if_pos hne]
      unfold dcM
      rw [if_neg (by simp [hcf]), if_neg (by simp [hop0]), ← hl, hr, if_pos hne]
    have hS : UB (w.heap.size + 1) y4 y4.drew := UB.of_below (Below.refl _ _).drew
    have M0d := M0.bel (Below.refl _ _).drew
    go_upto_region 9 with fail
    refine vh_start (fun v => UB (w.heap.size + 1) y4 v) (by kernel_rfl) ?_
    refine vh_take 0 true (zG.val nilS nilS) rfl (by kernel_rfl) (by kernel_rfl) (by kernel_rfl) (want_none rfl) (fun hc v hv => ex_build rfl (bdM0 _)) rfl hz (by decide) hS (fun Y6 zz kk s41 => ?_)
    replace s4 := ku s4
    replace s8 := ku s8
    replace hz := zz
    clear kk zz s2 s9
    refine vh_take 1 true (.pointer (some ⟨b, 0, none⟩)) rfl (by kernel_rfl) (by kernel_rfl) (by kernel_rfl) (want_none rfl) (fun hc v hv => ex_move rfl (ev s8 rfl)) rfl hz (by decide) hS (fun Y7 zz kk s42 => ?_)
    replace s4 := ku s4
    replace s41 := ku s41
    replace hz := zz
    clear kk zz s8 Y6
    refine vh_take 2 true (.pointer (some ⟨b, 0, none⟩)) rfl (by kernel_rfl) (by kernel_rfl) (by kernel_rfl) (want_none rfl) (fun hc v hv => ex_nil rfl (ev s42 rfl)) rfl hz (by decide) hS (fun Y8 zz kk s43 => ?_)
    replace s4 := ku s4
    replace s41 := ku s41
    replace hz := zz
    clear kk zz s42 Y7
    refine vh_take 3 true (.pointer (some ⟨b, 2, none⟩)) rfl (by kernel_rfl) (by kernel_rfl) (by kernel_rfl) (want_none rfl) (fun hc v hv => ex_fa rfl (ev s43 rfl) (faErr _ _)) rfl hz (by decide) hS (fun Y9 zz kk s44 => ?_)
    replace s4 := ku s4
    replace s41 := ku s41
    replace hz := zz
    clear kk zz s43 Y8
    refine vh_take 4 true (.int .i64 (sI mxI l (0, 0)).2) rfl (by kernel_rfl) (by kernel_rfl) (by kernel_rfl) (want_none rfl) (fun hc v hv => ex_ld rfl (ev s44 rfl) (Q4.ldErr9 hv (by omega))) rfl hz (by decide) hS (fun Yba zz kk s45 => ?_)
    replace s4 := ku s4
    replace s41 := ku s41
    replace hz := zz
    clear kk zz s44 Y9
    refine vh_store 5 (sets y4.drew (w.heap.size + 1) 0 (zG.cs nilS nilS)) rfl (by kernel_rfl) (want_none rfl) (ex_st rfl (ev s4 rfl) (ev s41 rfl) (stM M0d zG nilS nilS rfl rfl)) rfl (hS.trans (M0d.putU zG nilS nilS).2) ?_
    have SPz := M0d.putU zG nilS nilS
    obtain ⟨v1, hv1⟩ : ∃ y, y = sets y4.drew (w.heap.size + 1) 0 (zG.cs nilS nilS) := ⟨_, rfl⟩
    rw [← hv1] at SPz ⊢
    clear hv1
    have hS9 := hS.trans SPz.2
    clear hS
    have hS := hS9
    refine vh_take 6 true (.int .i64 (sI mxI l (0, 0)).2) rfl (by kernel_rfl) (by kernel_rfl) (by kernel_rfl) (want_none rfl) (fun hc v hv => ex_assign rfl (ev s45 rfl)) rfl hz (by decide) hS (fun Ybb zz kk s5 => ?_)
    replace s4 := ku s4
    replace hz := zz
    clear kk zz s41 s45 Yba
    refine vh_done (by kernel_rfl) ?_
    have hfin : Below w.heap.size w v1 := hB.trans (UB.below hS hB.size (by omega))
    go_wp2
    refine bodyPost_msg rfl s4 s5 SPz.1 ?_
    rw [VV]
    exact ⟨_, _, rfl, OwnY.nil _ _ _, OwnY.nil _ _ _, hfin⟩
  rw [hse] at s40
  refine wp_cond_false ((ev s40 rfl).trans rfl) ?_
  have hse0 : (sI mxI l (0, 0)).2 = 0 := by simpa using hse
  clear s40 hse
  obtain ⟨k, hk⟩ : ∃ k, k = rI mxI l (0, 0) := ⟨_, rfl⟩
  rw [← hk] at s9
  go_upto_region 10 with fail
  refine wp_region_lit ?_
  refine vt _ (ex_move rfl (ev s9 rfl)) hz (fun Ybc zz kk s46 => ?_)
  replace s2 := ku s2
  replace s4 := ku s4
  replace s8 := ku s8
  replace s9 := ku s9
  replace hz := zz
  clear kk zz
  refine vcallP (want_none rfl) (ex_call rfl (by simp only [List.map_toArray, List.map_cons, List.map_nil, (ev s46 rfl), evc] <;> rfl) rfl) (uses_all (k : Int) y4) rfl hz (by decide) ?_
  rintro e y5 ⟨vu, rfl, OU, hb⟩; have hz5 := hb.size; obtain ⟨ua, uc, hvu, _⟩ := OU.form; subst hvu
  refine ⟨_, rfl, fun Ybd zz kk s47 => ?_⟩
  replace Cc := Cc.bel hb
  replace M0 := M0.bel hb
  replace hB := hB.trans (hb.mono hB.size)
  replace Q4 := Q4.later hb
  clear hb
  replace s2 := ku s2
  replace s4 := ku s4
  replace s8 := ku s8
  replace s9 := ku s9
  replace hz := zz
  clear kk zz s46 Ybc
  refine vt _ (ex_assign rfl (ev s47 rfl)) hz (fun Ybe zz kk s10 => ?_)
  replace s2 := ku s2
  replace s4 := ku s4
  replace s8 := ku s8
  replace s9 := ku s9
  replace hz := zz
  clear kk zz s47 Ybd
  refine wpList_nil ?_
  go_upto_region 11 with fail
  refine wp_region_lit ?_
  refine vt _ (ex_move rfl (ev s10 rfl)) hz (fun Ybf zz kk s48 => ?_)
  replace s2 := ku s2
  replace s4 := ku s4
  replace s8 := ku s8
  replace s9 := ku s9
  replace s10 := ku s10
  replace hz := zz
  clear kk zz
  refine vt (.int .i64 ((usL (k : Int)).length : Int)) (ex_lenB rfl rfl (ev s48 rfl)) hz (fun Ybg zz kk s49 => ?_)
  replace s2 := ku s2
  replace s4 := ku s4
  replace s8 := ku s8
  replace s9 := ku s9
  replace s10 := ku s10
  replace hz := zz
  clear kk zz s48 Ybf
  refine vt (.bool (decide (((usL (k : Int)).length : Int) = 0))) (ex_bin rfl (ev s49 rfl) rfl (eqlC _ _ _ _ _)) hz (fun Ybh zz kk s50 => ?_)
  replace s2 := ku s2
  replace s4 := ku s4
  replace s8 := ku s8
  replace s9 := ku s9
  replace s10 := ku s10
  replace hz := zz
  clear kk zz s49 Ybg
  refine wpList_nil ?_
  go_upto_region 13 with fail
  cases hul : decide (((usL (k : Int)).length : Int) = 0)
  rotate_left
  · rw [hul] at s50
    refine wp_cond_true ((ev s50 rfl).trans rfl) ?_
    clear s50
    have hK : kdB (k : Int) = false := usL_none (of_decide_eq_true hul)
    have VV : dcM c f = (⟨zG, [], [], (0, 0)⟩, 70) := by
      have hr : rdM l = (⟨zG, [], [], (0, 0)⟩, 70) := by unfold rdM; rw [if_neg (by simp [hse0]), ← hk, if_pos hK]
      unfold dcM
      rw [if_neg (by simp [hcf]), if_neg (by simp [hop0]), ← hl, hr, if_pos (by decide)]
    go_upto_region 12 with fail
    refine wp_region_lit ?_
    refine vt (zG.val nilS nilS) (ex_build rfl (bdM0 _)) hz (fun Ybi zz kk s51 => ?_)
    replace s4 := ku s4
    replace hz := zz
    clear kk zz s2 s8 s9 s10
    refine vs (sets y5 (w.heap.size + 1) 0 (zG.cs nilS nilS)) (want_none rfl) (ex_st rfl (ev s4 rfl) (ev s51 rfl) (stM M0 zG nilS nilS rfl rfl)) rfl ?_
    have SPz := M0.putU zG nilS nilS
    obtain ⟨v1, hv1⟩ : ∃ y, y = sets y5 (w.heap.size + 1) 0 (zG.cs nilS nilS) := ⟨_, rfl⟩
    rw [← hv1] at SPz ⊢
    clear hv1
    refine vt (.int .i64 70) (ex_assign rfl rfl) hz (fun Ybj zz kk s5 => ?_)
    replace s4 := ku s4
    replace hz := zz
    clear kk zz s51 Ybi
    refine wpList_nil ?_
    have hfin : Below w.heap.size w v1 := hB.trans (SPz.2.below hB.size (by omega))
    go_wp2
    refine bodyPost_msg rfl s4 s5 SPz.1 ?_
    rw [VV]
    exact ⟨_, _, rfl, OwnY.nil _ _ _, OwnY.nil _ _ _, hfin⟩
  rw [hul] at s50
  refine wp_cond_false ((ev s50 rfl).trans rfl) ?_
  have hK : kdB (k : Int) = true := usL_some (of_decide_eq_false hul)
  clear s50 hul
  have hk2 : k < 15 := by have := inR_iff.1 hK; omega
  have hul := us_len hK
  obtain ⟨gu, hgu, hgu1, hgu2⟩ : ∃ g, ua = some ⟨g, 0, none⟩ ∧ y4.heap.size ≤ g ∧ g < y5.heap.size := by
    rcases OU.2 with ⟨h1, h2⟩ | ⟨g, cap, cur, h1, h2, h3, _⟩
    · omega
    · injection h1 with h4 _ _
      exact ⟨g, h4, h2, (Array.getElem?_eq_some_iff.1 h3).1⟩
  subst hgu
  rw [hul] at s10 OU
  obtain ⟨cu, hcu⟩ : ∃ x, x = uc := ⟨_, rfl⟩
  rw [← hcu] at s10 OU
  clear hcu
  obtain ⟨qm, hqm⟩ : ∃ q, q = y5.heap.size := ⟨_, rfl⟩
  obtain ⟨y6, hy6⟩ : ∃ y, y = y5.alloc (.cells (zG.cs nilS nilS).toArray 38) := ⟨_, rfl⟩
  have hb : Below y5.heap.size y5 y6 := by rw [hy6]; exact (Below.refl _ _).alloc (Nat.le_refl _) _
  have M6 : MBox y6 qm zG nilS nilS := by rw [hy6, hqm]; exact MBox.new0 y5
  have hz6 : y6.heap.size = qm + 1 := by rw [hy6, hqm]; simp
  have OU6 := OwnY.grow OU hb
  replace Cc := Cc.bel hb
  replace M0 := M0.bel hb
  replace hB := hB.trans (hb.mono hB.size)
  replace Q4 := Q4.later hb
  clear hb
  clear OU
  go_upto_region 13 with fail
  refine wp_region_lit ?_
  refine vt _ (ex_move rfl (ev s9 rfl)) hz (fun Ybk zz kk s52 => ?_)
  replace s2 := ku s2
  replace s4 := ku s4
  replace s8 := ku s8
  replace s9 := ku s9
  replace s10 := ku s10
  replace hz := zz
  clear kk zz
  refine vt (({ zG with k := (k : Int) } : Mg).val nilS nilS) (ex_buildP rfl (by simp only [List.map_toArray, List.map_cons, List.map_nil, (ev s52 rfl)] <;> rfl) (bdM _ _)) hz (fun Ybl zz kk s53 => ?_)
  replace s2 := ku s2
  replace s4 := ku s4
  replace s8 := ku s8
  replace s9 := ku s9
  replace s10 := ku s10
  replace hz := zz
  clear kk zz s52 Ybk
  refine vw (.pointer (some ⟨qm, 0, none⟩)) y6 (want_none rfl) (ex_al rfl (by rw [hy6, hqm]; exact alM _)) rfl hz (by decide) (fun Ybm zz kk s11 => ?_)
  replace s2 := ku s2
  replace s4 := ku s4
  replace s8 := ku s8
  replace s9 := ku s9
  replace s10 := ku s10
  replace s53 := ku s53
  replace hz := zz
  clear kk zz Ybl
  refine vs (sets y6 qm 0 (({ zG with k := (k : Int) } : Mg).cs nilS nilS)) (want_none rfl) (ex_st rfl (ev s11 rfl) (ev s53 rfl) (stM M6 ({ zG with k := (k : Int) } : Mg) nilS nilS rfl rfl)) rfl ?_
  have SP7 := M6.putU ({ zG with k := (k : Int) } : Mg) nilS nilS
  obtain ⟨y7, hy7⟩ : ∃ y, y = sets y6 qm 0 (({ zG with k := (k : Int) } : Mg).cs nilS nilS) := ⟨_, rfl⟩
  rw [← hy7] at SP7 ⊢
  have hz7 : y7.heap.size = qm + 1 := by rw [hy7, size_sets]; exact hz6
  clear hy7 hy6 M6
  have M7 := SP7.1
  replace Cc := Cc.upd9 SP7.2 (by omega)
  replace M0 := M0.upd SP7.2 (by omega)
  replace hB := hB.trans (SP7.2.below hB.size (by omega))
  have Q7 := Q4.ub (S := fun x => x = qm) SP7.2 (fun x hx => by omega)
  have OU7 := OwnY.upd1 OU6 SP7.2 (fun g hg (e : g = qm) => by have h9 : gu = g := Option.some.inj hg; omega)
  clear SP7 Q4 OU6 hz6
  clear s53
  refine wpList_nil ?_
  obtain ⟨x0, hx0⟩ : ∃ x0 : Rst, x0 = ⟨({ zG with k := (k : Int) } : Mg), [], [], sI mxI l (0, 0)⟩ := ⟨_, rfl⟩
  have Q7x : QD (b + 1) y7 b l x0.s := by rw [hx0]; exact Q7
  have M7x : MBox y7 qm x0.m nilS nilS := by rw [hx0]; exact M7
  clear Q7 M7
  have hx0L : x0.L = [] := by rw [hx0]
  have hx0D : x0.D = [] := by rw [hx0]
  have hx0n : nmL x0.m = List.replicate 5 0 := by rw [hx0]; rfl
  have hR : rdM l = (rCols l k x0 10, Wi.endErr l.length (rCols l k x0 10).s.1 (rCols l k x0 10).s.2) := by unfold rdM; rw [if_neg (by simp [hse0]), ← hk, if_neg (by simp [hK]), hx0]
  have hbm : b < qm := by omega
  have hgm : gu < qm := by omega
  have hgb : gu ≠ b := by omega
  have HCU : ∀ j, j < 10 → ∀ v, Upd (fun x => x = b ∨ qm ≤ x) y7 v → v.cell? ⟨gu, j, none⟩ = some (.bool (!decide ((tabA k j : Int) = 0))) := fun j hj v hv => by
    have h1 := OwnY.cell kB OU7 j _ (us_tab7 hK j hj) 0 _ rfl
    rw [show j * yB.k + 0 = j by show j * 1 + 0 = j; omega] at h1
    exact (hv.cell (p := ⟨gu, j, none⟩) (show gu < y7.heap.size by omega) (show ¬ (gu = b ∨ qm ≤ gu) by omega)).trans h1
  obtain ⟨y8, hmk, ON8, hb⟩ := run_mk5 y7
  obtain ⟨qn, hqn⟩ : ∃ q, q = y7.heap.size := ⟨_, rfl⟩
  rw [← hqn] at hmk
  have ON8x : OwnY yJ y7.heap.size y8 (.slice (some ⟨qn, 0, none⟩) 5 5) (nmL x0.m) := by rw [hx0n, hqn]; exact ON8
  go_upto_region 14 with fail
  refine wp_region_lit ?_
  refine vw (.slice (some ⟨qn, 0, none⟩) 5 5) y8 (want_none rfl) (ex_mk rfl rfl rfl hmk) rfl hz (by decide) (fun Ybn zz kk s54 => ?_)
  clear hmk ON8
  have HU8 : Upd (fun x => x = b ∨ qm ≤ x) y7 y8 := Upd.of_below hb
  have Q8 := Q7x.later hb
  have M8 := M7x.bel hb
  clear hb
  replace s2 := ku s2
  replace s4 := ku s4
  replace s8 := ku s8
  replace s9 := ku s9
  replace s10 := ku s10
  replace s11 := ku s11
  replace hz := zz
  clear kk zz
  refine vt _ (ex_assign rfl (ev s54 rfl)) hz (fun Ybo zz kk s12 => ?_)
  replace s2 := ku s2
  replace s4 := ku s4
  replace s8 := ku s8
  replace s9 := ku s9
  replace s10 := ku s10
  replace s11 := ku s11
  replace hz := zz
  clear kk zz s54 Ybn
  refine wpList_nil ?_
  go_upto_region 15 with fail
  refine wp_region_lit ?_
  refine vt (.int .i64 0) (ex_assign rfl rfl) hz (fun Ybp zz kk s13 => ?_)
  replace s2 := ku s2
  replace s4 := ku s4
  replace s8 := ku s8
  replace s9 := ku s9
  replace s10 := ku s10
  replace s11 := ku s11
  replace s12 := ku s12
  replace hz := zz
  clear kk zz
  refine wpList_nil ?_
  go_upto_region 16 with fail
  refine v_loop 13 5 (fun j T wr => T.size = 169 ∧ T[2]? = some (gw true (.pointer (some ⟨w.heap.size, 0, none⟩))) ∧ T[4]? = some (gw true (.pointer (some ⟨(w.heap.size + 1), 0, none⟩))) ∧ T[8]? = some (gw true (.pointer (some ⟨b, 0, none⟩))) ∧ T[9]? = some (gw true (.int .i64 (k : Int))) ∧ T[10]? = some (gw true (.slice (some ⟨gu, 0, none⟩) 10 cu)) ∧ T[11]? = some (gw true (.pointer (some ⟨qm, 0, none⟩))) ∧ T[12]? = some (gw true (.slice (some ⟨qn, 0, none⟩) 5 5)) ∧ T[13]? = some (gw true (.int .i64 (j : Int))) ∧ Hid (QD (b + 1) wr b l (rCols l k x0 j).s ∧ OwnY yJ y7.heap.size wr (.slice (some ⟨qn, 0, none⟩) 5 5) (nmL (rCols l k x0 j).m) ∧ MBox wr qm x0.m nilS nilS ∧ Upd (fun x => x = b ∨ qm ≤ x) y7 wr)) (fun j T w h => h.2.2.2.2.2.2.2.2.1) ⟨hz, s2, s4, s8, s9, s10, s11, s12, s13, Q8, ON8x, M8, HU8⟩ ?_
  clear hz s2 s4 s8 s9 s10 s11 s12 s13 Q8 ON8x M8 HU8
  intro j R0 wr hj hh
  obtain ⟨hz, s2, s4, s8, s9, s10, s11, s12, s13, HI⟩ := hh
  obtain ⟨QR, ONR, MR, HUR⟩ := HI.out
  clear HI
  go_upto_region 16 with fail
  refine wp_region_lit ?_
  refine vt _ (ex_move rfl (ev s13 rfl)) hz (fun Ybq zz kk s55 => ?_)
  replace s2 := ku s2
  replace s4 := ku s4
  replace s8 := ku s8
  replace s9 := ku s9
  replace s10 := ku s10
  replace s11 := ku s11
  replace s12 := ku s12
  replace s13 := ku s13
  replace hz := zz
  clear kk zz
  refine vt (.bool (decide ((j : Int) < 5))) (ex_bin rfl (ev s55 rfl) rfl (lssC _ _ _ _ _)) hz (fun Ybr zz kk s56 => ?_)
  replace s2 := ku s2
  replace s4 := ku s4
  replace s8 := ku s8
  replace s9 := ku s9
  replace s10 := ku s10
  replace s11 := ku s11
  replace s12 := ku s12
  replace s13 := ku s13
  replace hz := zz
  clear kk zz s55 Ybq
  refine wpList_nil ?_
  go_upto_region 18 with fail
  cases e8 : decide ((j : Int) < 5)
  rotate_left
  · refine wp_cond_true ((ev s56 rfl).trans (congrArg Value.bool e8)) ?_
    have hlt : j < 5 := by have := of_decide_eq_true e8; omega
    clear s56 e8
    go_upto_region 18 with fail
    refine wp_region_lit ?_
    refine vt _ (ex_move rfl (ev s10 rfl)) hz (fun Ybs zz kk s59 => ?_)
    replace s2 := ku s2
    replace s4 := ku s4
    replace s8 := ku s8
    replace s9 := ku s9
    replace s10 := ku s10
    replace s11 := ku s11
    replace s12 := ku s12
    replace s13 := ku s13
    replace hz := zz
    clear kk zz
    refine vt _ (ex_move rfl (ev s13 rfl)) hz (fun Ybt zz kk s60 => ?_)
    replace s2 := ku s2
    replace s4 := ku s4
    replace s8 := ku s8
    replace s9 := ku s9
    replace s10 := ku s10
    replace s11 := ku s11
    replace s12 := ku s12
    replace s13 := ku s13
    replace s59 := ku s59
    replace hz := zz
    clear kk zz Ybs
    refine vt (.pointer (some ⟨gu, j, none⟩)) (ex_ix rfl (ev s59 rfl) (ev s60 rfl) (by exact ixBool gu j 10 cu (by omega) _)) hz (fun Ybu zz kk s61 => ?_)
    replace s2 := ku s2
    replace s4 := ku s4
    replace s8 := ku s8
    replace s9 := ku s9
    replace s10 := ku s10
    replace s11 := ku s11
    replace s12 := ku s12
    replace s13 := ku s13
    replace hz := zz
    clear kk zz s59 s60 Ybt
    refine vt (.bool (!decide ((tabA k j : Int) = 0))) (ex_ld rfl (ev s61 rfl) (ldBool (HCU j (by omega) _ HUR))) hz (fun Ybv zz kk s62 => ?_)
    replace s2 := ku s2
    replace s4 := ku s4
    replace s8 := ku s8
    replace s9 := ku s9
    replace s10 := ku s10
    replace s11 := ku s11
    replace s12 := ku s12
    replace s13 := ku s13
    replace hz := zz
    clear kk zz s61 Ybu
    refine wpList_nil ?_
    go_upto_region 19 with fail
    refine v_cond (fun T wr => T.size = 169 ∧ T[2]? = some (gw true (.pointer (some ⟨w.heap.size, 0, none⟩))) ∧ T[4]? = some (gw true (.pointer (some ⟨(w.heap.size + 1), 0, none⟩))) ∧ T[8]? = some (gw true (.pointer (some ⟨b, 0, none⟩))) ∧ T[9]? = some (gw true (.int .i64 (k : Int))) ∧ T[10]? = some (gw true (.slice (some ⟨gu, 0, none⟩) 10 cu)) ∧ T[11]? = some (gw true (.pointer (some ⟨qm, 0, none⟩))) ∧ T[12]? = some (gw true (.slice (some ⟨qn, 0, none⟩) 5 5)) ∧ T[13]? = some (gw true (.int .i64 (j : Int))) ∧ Hid (QD (b + 1) wr b l (rCols l k x0 (j + 1)).s ∧ OwnY yJ y7.heap.size wr (.slice (some ⟨qn, 0, none⟩) 5 5) (nmL (rCols l k x0 (j + 1)).m) ∧ MBox wr qm x0.m nilS nilS ∧ Upd (fun x => x = b ∨ qm ≤ x) y7 wr)) s62 (fun hu => ?_) (fun hu => ⟨hz, s2, s4, s8, s9, s10, s11, s12, s13, by rw [rCols_none (show tabA k j = 0 by have h0 : ((tabA k j : Nat) : Int) = 0 := (by simpa using hu); omega)]; exact ⟨QR, ONR, MR, HUR⟩⟩) ?_
    · clear s62
      have ht : ¬ tabA k j = 0 := by intro h0; rw [h0] at hu; simp at hu
      obtain ⟨hn1, hn2⟩ := nm_set l (rCols l k x0 j) (!decide ((tabA k j : Int) = 15)) hlt
      rw [← rCols_some ht] at hn1 hn2
      have hzR := HUR.size
      go_upto_region 19 with fail
      refine wp_region_lit ?_
      refine vt _ (ex_move rfl (ev s12 rfl)) hz (fun Ybw zz kk s63 => ?_)
      replace s2 := ku s2
      replace s4 := ku s4
      replace s8 := ku s8
      replace s9 := ku s9
      replace s10 := ku s10
      replace s11 := ku s11
      replace s12 := ku s12
      replace s13 := ku s13
      replace hz := zz
      clear kk zz
      refine vt _ (ex_move rfl (ev s13 rfl)) hz (fun Ybx zz kk s64 => ?_)
      replace s2 := ku s2
      replace s4 := ku s4
      replace s8 := ku s8
      replace s9 := ku s9
      replace s10 := ku s10
      replace s11 := ku s11
      replace s12 := ku s12
      replace s13 := ku s13
      replace s63 := ku s63
      replace hz := zz
      clear kk zz Ybw
      refine vt _ (ex_move rfl (ev s8 rfl)) hz (fun Yby zz kk s65 => ?_)
      replace s2 := ku s2
      replace s4 := ku s4
      replace s8 := ku s8
      replace s9 := ku s9
      replace s10 := ku s10
      replace s11 := ku s11
      replace s12 := ku s12
      replace s13 := ku s13
      replace s63 := ku s63
      replace s64 := ku s64
      replace hz := zz
      clear kk zz Ybx
      refine vcallP (want_none rfl) (ex_call rfl (by simp only [List.map_toArray, List.map_cons, List.map_nil, (ev s65 rfl), evc] <;> rfl) rfl) (qd_I (b + 1) b mxI (Int.le_refl _) l (rCols l k x0 j).s wr QR) rfl hz (by decide) ?_
      rintro e z1 ⟨rfl, QZ, hu1⟩; have hzz := hu1.size
      refine ⟨_, rfl, fun Ybz zz kk s66 => ?_⟩
      have ON1 := OwnY.upd1 ONR hu1 (fun g hg (e : g = b) => by have h9 : qn = g := Option.some.inj hg; omega)
      have MZ := MR.upd hu1 (by omega)
      have HU1 := HUR.trans (hu1.mono (fun x _ hx => .inl hx))
      have hcj := OwnY.intJ ON1 (j := j) (List.getElem?_eq_getElem (show j < (nmL (rCols l k x0 j).m).length by show j < 5; exact hlt))
      have hfj := OwnY.free ON1 j
      clear QR ONR MR HUR hu1
      replace s2 := ku s2
      replace s4 := ku s4
      replace s8 := ku s8
      replace s9 := ku s9
      replace s10 := ku s10
      replace s11 := ku s11
      replace s12 := ku s12
      replace s13 := ku s13
      replace s63 := ku s63
      replace s64 := ku s64
      replace hz := zz
      clear kk zz s65 Yby
      refine vt (.pointer (some ⟨qn, j, none⟩)) (ex_ix rfl (ev s63 rfl) (ev s64 rfl) (by exact ixJ qn j 5 5 (by omega) _)) hz (fun Yb0 zz kk s67 => ?_)
      replace s2 := ku s2
      replace s4 := ku s4
      replace s8 := ku s8
      replace s9 := ku s9
      replace s10 := ku s10
      replace s11 := ku s11
      replace s12 := ku s12
      replace s13 := ku s13
      replace s66 := ku s66
      replace hz := zz
      clear kk zz s63 s64 Ybz
      refine vs (z1.setCell ⟨qn, j, none⟩ (.int .i64 (rI mxI l (rCols l k x0 j).s : Int))) (want_none rfl) (ex_st rfl (ev s67 rfl) (ev s66 rfl) (stJ hcj hfj _)) rfl ?_
      have ON2 := OwnY.setJ ON1 (j := j) (show j < 5 from hlt) (rI mxI l (rCols l k x0 j).s : Int)
      have hu2 : Upd (fun x => x = qn) z1 (z1.setCell ⟨qn, j, none⟩ (.int .i64 (rI mxI l (rCols l k x0 j).s : Int))) := (Upd.refl (fun x => x = qn) z1).setCell (p := ⟨qn, j, none⟩) (.inl rfl) _
      rw [← hn1] at ON2
      rw [← hn2] at QZ
      have QZ2 := QZ.ub hu2 (fun x hx => by omega)
      have MZ2 := MZ.upd hu2 (by omega)
      have HU2 := HU1.trans (hu2.mono (fun x _ hx => .inr (by omega)))
      clear s66 s67
      refine wpList_nil ?_
      exact ⟨_, rfl, hz, s2, s4, s8, s9, s10, s11, s12, s13, QZ2, ON2, MZ2, HU2⟩
    · clear hz s2 s4 s8 s9 s10 s11 s12 s13 s62 QR ONR MR HUR
      intro T8 w8 hJ
      obtain ⟨hz, s2, s4, s8, s9, s10, s11, s12, s13, HI⟩ := hJ
      go_upto_region 17 with fail
      refine wp_region_lit ?_
      refine vt _ (ex_move rfl (ev s13 rfl)) hz (fun Yb1 zz kk s57 => ?_)
      replace s2 := ku s2
      replace s4 := ku s4
      replace s8 := ku s8
      replace s9 := ku s9
      replace s10 := ku s10
      replace s11 := ku s11
      replace s12 := ku s12
      replace s13 := ku s13
      replace hz := zz
      clear kk zz
      refine vt (.int .i64 ((j + 1 : Nat) : Int)) (ex_bin rfl (ev s57 rfl) rfl (addJ j (by omega) _ _ _)) hz (fun Yb2 zz kk s58 => ?_)
      replace s2 := ku s2
      replace s4 := ku s4
      replace s8 := ku s8
      replace s9 := ku s9
      replace s10 := ku s10
      replace s11 := ku s11
      replace s12 := ku s12
      replace s13 := ku s13
      replace hz := zz
      clear kk zz s57 Yb1
      refine vt _ (ex_assign rfl (ev s58 rfl)) hz (fun Yb3 zz kk s13x => ?_)
      replace s2 := ku s2
      replace s4 := ku s4
      replace s8 := ku s8
      replace s9 := ku s9
      replace s10 := ku s10
      replace s11 := ku s11
      replace s12 := ku s12
      clear kk hz s58 s13
      have hz := zz
      have s13 := s13x
      clear zz s13x Yb2
      refine wpList_nil ?_
      exact ⟨_, rfl, by omega, hz, s2, s4, s8, s9, s10, s11, s12, s13, HI.out⟩
  refine wp_cond_false ((ev s56 rfl).trans (congrArg Value.bool e8)) ?_
  have hj5 : j = 5 := by have := of_decide_eq_false e8; omega
  subst hj5
  clear s56 e8 s13 hj
  obtain ⟨X, hX⟩ : ∃ X, X = rCols l k x0 5 := ⟨_, rfl⟩
  rw [← hX] at QR ONR
  obtain ⟨h51, h52, h53⟩ := rc5 l k x0 5 (Nat.le_refl _)
  rw [← hX] at h51 h52 h53
  have hzR := HUR.size
  go_upto_region 20 with fail
  refine wp_region_lit ?_
  refine vt _ (ex_move rfl (ev s12 rfl)) hz (fun Yb4 zz kk s68 => ?_)
  replace s2 := ku s2
  replace s4 := ku s4
  replace s8 := ku s8
  replace s9 := ku s9
  replace s10 := ku s10
  replace s11 := ku s11
  replace s12 := ku s12
  replace hz := zz
  clear kk zz
  refine vt (.pointer (some ⟨qn, 0, none⟩)) (ex_ix rfl (ev s68 rfl) rfl (by exact ixJ qn 0 5 5 (by omega) _)) hz (fun Yb5 zz kk s69 => ?_)
  replace s2 := ku s2
  replace s4 := ku s4
  replace s8 := ku s8
  replace s9 := ku s9
  replace s10 := ku s10
  replace s11 := ku s11
  replace s12 := ku s12
  replace hz := zz
  clear kk zz s68 Yb4
  refine vt (.int .i64 X.m.nd) (ex_ld rfl (ev s69 rfl) (ldJ (OwnY.intJ ONR (j := 0) rfl))) hz (fun Yb6 zz kk s70 => ?_)
  replace s2 := ku s2
  replace s4 := ku s4
  replace s8 := ku s8
  replace s9 := ku s9
  replace s10 := ku s10
  replace s11 := ku s11
  replace s12 := ku s12
  replace hz := zz
  clear kk zz s69 Yb5
  refine vt (.pointer (some ⟨qm, 1, none⟩)) (ex_fa rfl (ev s11 rfl) (MBox.faNode _ _)) hz (fun Yb7 zz kk s71 => ?_)
  replace s2 := ku s2
  replace s4 := ku s4
  replace s8 := ku s8
  replace s9 := ku s9
  replace s10 := ku s10
  replace s11 := ku s11
  replace s12 := ku s12
  replace s70 := ku s70
  replace hz := zz
  clear kk zz Yb6
  refine vs (sets wr qm 1 [.int .i64 X.m.nd]) (want_none rfl) (ex_st rfl (ev s71 rfl) (ev s70 rfl) (stInt X.m.nd (MR.cell 1 _ rfl) (MR.free 1))) rfl ?_
  have SP := MR.splice 1 [.int .i64 X.m.nd] { x0.m with nd := X.m.nd } nilS nilS (by show _ + _ ≤ 18; simp) rfl
  obtain ⟨u0, hu0⟩ : ∃ y, y = sets wr qm 1 [.int .i64 X.m.nd] := ⟨_, rfl⟩
  rw [← hu0] at SP ⊢
  clear hu0
  have QN := QR.ub (S := fun x => x = qm) SP.2 (fun x hx => by omega)
  have ONN := OwnY.upd1 ONR SP.2 (fun g hg (e : g = qm) => by have h9 : qn = g := Option.some.inj hg; omega)
  have HUN := HUR.trans (SP.2.mono (fun x _ hx => .inr (by omega)))
  clear QR ONR HUR MR
  have QR := QN
  have ONR := ONN
  have HUR := HUN
  have MR := SP.1
  clear QN ONN HUN SP
  clear s70 s71
  refine wpList_nil ?_
  go_upto_region 21 with fail
  refine wp_region_lit ?_
  refine vt _ (ex_move rfl (ev s12 rfl)) hz (fun Yb8 zz kk s72 => ?_)
  replace s2 := ku s2
  replace s4 := ku s4
  replace s8 := ku s8
  replace s9 := ku s9
  replace s10 := ku s10
  replace s11 := ku s11
  replace s12 := ku s12
  replace hz := zz
  clear kk zz
  refine vt (.pointer (some ⟨qn, 1, none⟩)) (ex_ix rfl (ev s72 rfl) rfl (by exact ixJ qn 1 5 5 (by omega) _)) hz (fun Yb9 zz kk s73 => ?_)
  replace s2 := ku s2
  replace s4 := ku s4
  replace s8 := ku s8
  replace s9 := ku s9
  replace s10 := ku s10
  replace s11 := ku s11
  replace s12 := ku s12
  replace hz := zz
  clear kk zz s72 Yb8
  refine vt (.int .i64 X.m.vw) (ex_ld rfl (ev s73 rfl) (ldJ (OwnY.intJ ONR (j := 1) rfl))) hz (fun Yca zz kk s74 => ?_)
  replace s2 := ku s2
  replace s4 := ku s4
  replace s8 := ku s8
  replace s9 := ku s9
  replace s10 := ku s10
  replace s11 := ku s11
  replace s12 := ku s12
  replace hz := zz
  clear kk zz s73 Yb9
  refine vt (.pointer (some ⟨qm, 2, none⟩)) (ex_fa rfl (ev s11 rfl) (MBox.faView _ _)) hz (fun Ycb zz kk s75 => ?_)
  replace s2 := ku s2
  replace s4 := ku s4
  replace s8 := ku s8
  replace s9 := ku s9
  replace s10 := ku s10
  replace s11 := ku s11
  replace s12 := ku s12
  replace s74 := ku s74
  replace hz := zz
  clear kk zz Yca
  refine vs (sets u0 qm 2 [.int .i64 X.m.vw]) (want_none rfl) (ex_st rfl (ev s75 rfl) (ev s74 rfl) (stInt X.m.vw (MR.cell 2 _ rfl) (MR.free 2))) rfl ?_
  have SP := MR.splice 2 [.int .i64 X.m.vw] { ({ x0.m with nd := X.m.nd } : Mg) with vw := X.m.vw } nilS nilS (by show _ + _ ≤ 18; simp) rfl
  obtain ⟨u1, hu1⟩ : ∃ y, y = sets u0 qm 2 [.int .i64 X.m.vw] := ⟨_, rfl⟩
  rw [← hu1] at SP ⊢
  clear hu1
  have QN := QR.ub (S := fun x => x = qm) SP.2 (fun x hx => by omega)
  have ONN := OwnY.upd1 ONR SP.2 (fun g hg (e : g = qm) => by have h9 : qn = g := Option.some.inj hg; omega)
  have HUN := HUR.trans (SP.2.mono (fun x _ hx => .inr (by omega)))
  clear QR ONR HUR MR
  have QR := QN
  have ONR := ONN
  have HUR := HUN
  have MR := SP.1
  clear QN ONN HUN SP
  clear s74 s75
  refine wpList_nil ?_
  go_upto_region 22 with fail
  refine wp_region_lit ?_
  refine vt _ (ex_move rfl (ev s12 rfl)) hz (fun Ycc zz kk s76 => ?_)
  replace s2 := ku s2
  replace s4 := ku s4
  replace s8 := ku s8
  replace s9 := ku s9
  replace s10 := ku s10
  replace s11 := ku s11
  replace s12 := ku s12
  replace hz := zz
  clear kk zz
  refine vt (.pointer (some ⟨qn, 2, none⟩)) (ex_ix rfl (ev s76 rfl) rfl (by exact ixJ qn 2 5 5 (by omega) _)) hz (fun Ycd zz kk s77 => ?_)
  replace s2 := ku s2
  replace s4 := ku s4
  replace s8 := ku s8
  replace s9 := ku s9
  replace s10 := ku s10
  replace s11 := ku s11
  replace s12 := ku s12
  replace hz := zz
  clear kk zz s76 Ycc
  refine vt (.int .i64 X.m.ls) (ex_ld rfl (ev s77 rfl) (ldJ (OwnY.intJ ONR (j := 2) rfl))) hz (fun Yce zz kk s78 => ?_)
  replace s2 := ku s2
  replace s4 := ku s4
  replace s8 := ku s8
  replace s9 := ku s9
  replace s10 := ku s10
  replace s11 := ku s11
  replace s12 := ku s12
  replace hz := zz
  clear kk zz s77 Ycd
  refine vt (.pointer (some ⟨qm, 13, none⟩)) (ex_fa rfl (ev s11 rfl) (MBox.faLast _ _)) hz (fun Ycf zz kk s79 => ?_)
  replace s2 := ku s2
  replace s4 := ku s4
  replace s8 := ku s8
  replace s9 := ku s9
  replace s10 := ku s10
  replace s11 := ku s11
  replace s12 := ku s12
  replace s78 := ku s78
  replace hz := zz
  clear kk zz Yce
  refine vs (sets u1 qm 13 [.int .i64 X.m.ls]) (want_none rfl) (ex_st rfl (ev s79 rfl) (ev s78 rfl) (stInt X.m.ls (MR.cell 13 _ rfl) (MR.free 13))) rfl ?_
  have SP := MR.splice 13 [.int .i64 X.m.ls] { ({ ({ x0.m with nd := X.m.nd } : Mg) with vw := X.m.vw } : Mg) with ls := X.m.ls } nilS nilS (by show _ + _ ≤ 18; simp) rfl
  obtain ⟨u2, hu2⟩ : ∃ y, y = sets u1 qm 13 [.int .i64 X.m.ls] := ⟨_, rfl⟩
  rw [← hu2] at SP ⊢
  clear hu2
  have QN := QR.ub (S := fun x => x = qm) SP.2 (fun x hx => by omega)
  have ONN := OwnY.upd1 ONR SP.2 (fun g hg (e : g = qm) => by have h9 : qn = g := Option.some.inj hg; omega)
  have HUN := HUR.trans (SP.2.mono (fun x _ hx => .inr (by omega)))
  clear QR ONR HUR MR
  have QR := QN
  have ONR := ONN
  have HUR := HUN
  have MR := SP.1
  clear QN ONN HUN SP
  clear s78 s79
  refine wpList_nil ?_
  go_upto_region 23 with fail
  refine wp_region_lit ?_
  refine vt _ (ex_move rfl (ev s12 rfl)) hz (fun Ycg zz kk s80 => ?_)
  replace s2 := ku s2
  replace s4 := ku s4
  replace s8 := ku s8
  replace s9 := ku s9
  replace s10 := ku s10
  replace s11 := ku s11
  replace s12 := ku s12
  replace hz := zz
  clear kk zz
  refine vt (.pointer (some ⟨qn, 3, none⟩)) (ex_ix rfl (ev s80 rfl) rfl (by exact ixJ qn 3 5 5 (by omega) _)) hz (fun Ych zz kk s81 => ?_)
  replace s2 := ku s2
  replace s4 := ku s4
  replace s8 := ku s8
  replace s9 := ku s9
  replace s10 := ku s10
  replace s11 := ku s11
  replace s12 := ku s12
  replace hz := zz
  clear kk zz s80 Ycg
  refine vt (.int .i64 X.m.p) (ex_ld rfl (ev s81 rfl) (ldJ (OwnY.intJ ONR (j := 3) rfl))) hz (fun Yci zz kk s82 => ?_)
  replace s2 := ku s2
  replace s4 := ku s4
  replace s8 := ku s8
  replace s9 := ku s9
  replace s10 := ku s10
  replace s11 := ku s11
  replace s12 := ku s12
  replace hz := zz
  clear kk zz s81 Ych
  refine vt (.pointer (some ⟨qm, 11, none⟩)) (ex_fa rfl (ev s11 rfl) (MBox.faPlace _ _)) hz (fun Ycj zz kk s83 => ?_)
  replace s2 := ku s2
  replace s4 := ku s4
  replace s8 := ku s8
  replace s9 := ku s9
  replace s10 := ku s10
  replace s11 := ku s11
  replace s12 := ku s12
  replace s82 := ku s82
  replace hz := zz
  clear kk zz Yci
  refine vs (sets u2 qm 11 [.int .i64 X.m.p]) (want_none rfl) (ex_st rfl (ev s83 rfl) (ev s82 rfl) (stInt X.m.p (MR.cell 11 _ rfl) (MR.free 11))) rfl ?_
  have SP := MR.splice 11 [.int .i64 X.m.p] { ({ ({ ({ x0.m with nd := X.m.nd } : Mg) with vw := X.m.vw } : Mg) with ls := X.m.ls } : Mg) with p := X.m.p } nilS nilS (by show _ + _ ≤ 18; simp) rfl
  obtain ⟨u3, hu3⟩ : ∃ y, y = sets u2 qm 11 [.int .i64 X.m.p] := ⟨_, rfl⟩
  rw [← hu3] at SP ⊢
  clear hu3
  have QN := QR.ub (S := fun x => x = qm) SP.2 (fun x hx => by omega)
  have ONN := OwnY.upd1 ONR SP.2 (fun g hg (e : g = qm) => by have h9 : qn = g := Option.some.inj hg; omega)
  have HUN := HUR.trans (SP.2.mono (fun x _ hx => .inr (by omega)))
  clear QR ONR HUR MR
  have QR := QN
  have ONR := ONN
  have HUR := HUN
  have MR := SP.1
  clear QN ONN HUN SP
  clear s82 s83
  refine wpList_nil ?_
  go_upto_region 24 with fail
  refine wp_region_lit ?_
  refine vt _ (ex_move rfl (ev s12 rfl)) hz (fun Yck zz kk s84 => ?_)
  replace s2 := ku s2
  replace s4 := ku s4
  replace s8 := ku s8
  replace s9 := ku s9
  replace s10 := ku s10
  replace s11 := ku s11
  replace hz := zz
  clear kk zz s12
  refine vt (.pointer (some ⟨qn, 4, none⟩)) (ex_ix rfl (ev s84 rfl) rfl (by exact ixJ qn 4 5 5 (by omega) _)) hz (fun Ycl zz kk s85 => ?_)
  replace s2 := ku s2
  replace s4 := ku s4
  replace s8 := ku s8
  replace s9 := ku s9
  replace s10 := ku s10
  replace s11 := ku s11
  replace hz := zz
  clear kk zz s84 Yck
  refine vt (.int .i64 X.m.cm) (ex_ld rfl (ev s85 rfl) (ldJ (OwnY.intJ ONR (j := 4) rfl))) hz (fun Ycm zz kk s86 => ?_)
  replace s2 := ku s2
  replace s4 := ku s4
  replace s8 := ku s8
  replace s9 := ku s9
  replace s10 := ku s10
  replace s11 := ku s11
  replace hz := zz
  clear kk zz s85 Ycl
  refine vt (.pointer (some ⟨qm, 12, none⟩)) (ex_fa rfl (ev s11 rfl) (MBox.faCommit _ _)) hz (fun Ycn zz kk s87 => ?_)
  replace s2 := ku s2
  replace s4 := ku s4
  replace s8 := ku s8
  replace s9 := ku s9
  replace s10 := ku s10
  replace s11 := ku s11
  replace s86 := ku s86
  replace hz := zz
  clear kk zz Ycm
  refine vs (sets u3 qm 12 [.int .i64 X.m.cm]) (want_none rfl) (ex_st rfl (ev s87 rfl) (ev s86 rfl) (stInt X.m.cm (MR.cell 12 _ rfl) (MR.free 12))) rfl ?_
  have SP := MR.splice 12 [.int .i64 X.m.cm] { ({ ({ ({ ({ x0.m with nd := X.m.nd } : Mg) with vw := X.m.vw } : Mg) with ls := X.m.ls } : Mg) with p := X.m.p } : Mg) with cm := X.m.cm } nilS nilS (by show _ + _ ≤ 18; simp) rfl
  obtain ⟨u4, hu4⟩ : ∃ y, y = sets u3 qm 12 [.int .i64 X.m.cm] := ⟨_, rfl⟩
  rw [← hu4] at SP ⊢
  clear hu4
  have QN := QR.ub (S := fun x => x = qm) SP.2 (fun x hx => by omega)
  have ONN := OwnY.upd1 ONR SP.2 (fun g hg (e : g = qm) => by have h9 : qn = g := Option.some.inj hg; omega)
  have HUN := HUR.trans (SP.2.mono (fun x _ hx => .inr (by omega)))
  clear QR ONR HUR MR
  have QR := QN
  have ONR := ONN
  have HUR := HUN
  have MR := SP.1
  clear QN ONN HUN SP
  clear s86 s87
  refine wpList_nil ?_
  have e5 : { ({ ({ ({ ({ x0.m with nd := X.m.nd } : Mg) with vw := X.m.vw } : Mg) with ls := X.m.ls } : Mg) with p := X.m.p } : Mg) with cm := X.m.cm } = X.m := h51.symm
  have MSR : MS u4 qm X.m X.L X.D := ⟨nilS, nilS, by rw [← e5]; exact MR, by rw [h52, hx0L]; exact OwnY.nil _ _ _, by rw [h53, hx0D]; exact OwnY.nil _ _ _⟩
  rw [hX] at QR MSR
  clear MR ONR h51 h52 h53 e5 hX X hzR
  go_upto_region 25 with fail
  refine wp_region_lit ?_
  refine vt _ (ex_move rfl (ev s10 rfl)) hz (fun Yco zz kk s88 => ?_)
  replace s2 := ku s2
  replace s4 := ku s4
  replace s8 := ku s8
  replace s9 := ku s9
  replace s10 := ku s10
  replace s11 := ku s11
  replace hz := zz
  clear kk zz
  refine vt (.pointer (some ⟨gu, 5, none⟩)) (ex_ix rfl (ev s88 rfl) rfl (by exact ixBool gu 5 10 cu (by omega) _)) hz (fun Ycp zz kk s89 => ?_)
  replace s2 := ku s2
  replace s4 := ku s4
  replace s8 := ku s8
  replace s9 := ku s9
  replace s10 := ku s10
  replace s11 := ku s11
  replace hz := zz
  clear kk zz s88 Yco
  refine vt (.bool (!decide ((tabA k 5 : Int) = 0))) (ex_ld rfl (ev s89 rfl) (ldBool (HCU 5 (by omega) _ HUR))) hz (fun Ycq zz kk s90 => ?_)
  replace s2 := ku s2
  replace s4 := ku s4
  replace s8 := ku s8
  replace s9 := ku s9
  replace s10 := ku s10
  replace s11 := ku s11
  replace hz := zz
  clear kk zz s89 Ycp
  refine wpList_nil ?_
  go_upto_region 26 with fail
  refine v_cond (fun T wr => T.size = 169 ∧ T[2]? = some (gw true (.pointer (some ⟨w.heap.size, 0, none⟩))) ∧ T[4]? = some (gw true (.pointer (some ⟨(w.heap.size + 1), 0, none⟩))) ∧ T[8]? = some (gw true (.pointer (some ⟨b, 0, none⟩))) ∧ T[9]? = some (gw true (.int .i64 (k : Int))) ∧ T[10]? = some (gw true (.slice (some ⟨gu, 0, none⟩) 10 cu)) ∧ T[11]? = some (gw true (.pointer (some ⟨qm, 0, none⟩))) ∧ Hid (QD (b + 1) wr b l (rCols l k x0 6).s ∧ MS wr qm (rCols l k x0 6).m (rCols l k x0 6).L (rCols l k x0 6).D ∧ Upd (fun x => x = b ∨ qm ≤ x) y7 wr)) s90 (fun hu => ?_) (fun hu => ⟨hz, s2, s4, s8, s9, s10, s11, by rw [rCols_none (show tabA k 5 = 0 by have h0 : ((tabA k 5 : Nat) : Int) = 0 := (by simpa using hu); omega)]; exact ⟨QR, MSR, HUR⟩⟩) ?_
  · clear s90
    have ht : ¬ tabA k 5 = 0 := by intro h0; rw [h0] at hu; simp at hu
    have hX := rCols_some (l := l) (x := x0) ht
    obtain ⟨X, hXe⟩ : ∃ X, X = rCols l k x0 5 := ⟨_, rfl⟩
    rw [← hXe] at QR MSR hX
    clear hu
    have hzR := HUR.size
    obtain ⟨sv, tv, MM, OL, OD⟩ := MSR
    go_upto_region 26 with fail
    refine wp_region_lit ?_
    refine vt _ (ex_move rfl (ev s8 rfl)) hz (fun Ycr zz kk s91 => ?_)
    replace s2 := ku s2
    replace s4 := ku s4
    replace s8 := ku s8
    replace s9 := ku s9
    replace s10 := ku s10
    replace s11 := ku s11
    replace hz := zz
    clear kk zz
    refine vcallP (want_none rfl) (ex_call rfl (by simp only [List.map_toArray, List.map_cons, List.map_nil, (ev s91 rfl), evc] <;> rfl) rfl) (qdraw_any (b + 1) b l X.s _ QR) rfl hz (by decide) ?_
    rintro e z1 ⟨rfl, QN, hu1⟩; have hzN := hu1.size
    refine ⟨_, rfl, fun Ycs zz kk s92 => ?_⟩
    change _ = some (gw true (.agg #[.int .u64 (rD l X.s).1, .int .u64 (rD l X.s).2])) at s92
    have MMN := MM.upd hu1 (by omega)
    have OLN := OL.far hu1 (fun x hx => by omega)
    have ODN := OD.far hu1 (fun x hx => by omega)
    have HUN := HUR.trans (hu1.mono (fun x _ hx => .inl hx))
    have hzR2 := HUN.size
    clear QR OL OD HUR MM hu1 hzN hzR
    have QR := QN
    have OL := OLN
    have OD := ODN
    have HUR := HUN
    have MM := MMN
    have hzR := hzR2
    clear QN OLN ODN HUN MMN hzR2
    replace s2 := ku s2
    replace s4 := ku s4
    replace s8 := ku s8
    replace s9 := ku s9
    replace s10 := ku s10
    replace s11 := ku s11
    replace hz := zz
    clear kk zz s91 Ycr
    refine vt (.pointer (some ⟨qm, 14, none⟩)) (ex_fa rfl (ev s11 rfl) (MBox.faDraw _ _)) hz (fun Yct zz kk s93 => ?_)
    replace s2 := ku s2
    replace s4 := ku s4
    replace s8 := ku s8
    replace s9 := ku s9
    replace s10 := ku s10
    replace s11 := ku s11
    replace s92 := ku s92
    replace hz := zz
    clear kk zz Ycs
    refine vs (sets z1 qm 14 [.int .u64 (rD l X.s).1, .int .u64 (rD l X.s).2]) (want_none rfl) (ex_st rfl (ev s93 rfl) (ev s92 rfl) (MM.stAt 33 14 [.int .u64 (rD l X.s).1, .int .u64 (rD l X.s).2] (by show 14 + 2 ≤ 18; omega) (by kernel_rfl) (by kernel_rfl))) rfl ?_
    have SP := MM.splice 14 [.int .u64 (rD l X.s).1, .int .u64 (rD l X.s).2] { X.m with d := rD l X.s } sv tv (by show _ + _ ≤ 18; simp) rfl
    obtain ⟨z2, hz2⟩ : ∃ y, y = sets z1 qm 14 [.int .u64 (rD l X.s).1, .int .u64 (rD l X.s).2] := ⟨_, rfl⟩
    rw [← hz2] at SP ⊢
    clear hz2
    have QN := QR.ub (S := fun x => x = qm) SP.2 (fun x hx => by omega)
    have OLN := OL.far (S := fun x => x = qm) SP.2 (fun x hx => by omega)
    have ODN := OD.far (S := fun x => x = qm) SP.2 (fun x hx => by omega)
    have HUN := HUR.trans (SP.2.mono (fun x _ (hx : x = qm) => .inr (by omega)))
    have hzR2 := HUN.size
    clear QR OL OD HUR MM hzR
    have hzR := hzR2
    clear hzR2
    have QR := QN
    have OL := OLN
    have OD := ODN
    have HUR := HUN
    have MM := SP.1
    clear QN OLN ODN HUN SP
    clear s92 s93
    refine wpList_nil ?_
    exact ⟨_, rfl, hz, s2, s4, s8, s9, s10, s11, by rw [hX]; exact ⟨QR, ⟨sv, tv, MM, OL, OD⟩, HUR⟩⟩
  · clear hz s2 s4 s8 s9 s10 s11 s90 QR MSR HUR
    intro T5c w5c hJ
    obtain ⟨hz, s2, s4, s8, s9, s10, s11, HI⟩ := hJ
    obtain ⟨QR, MSR, HUR⟩ := HI.out
    clear HI
    go_upto_region 27 with fail
    refine wp_region_lit ?_
    refine vt _ (ex_move rfl (ev s10 rfl)) hz (fun Ycu zz kk s94 => ?_)
    replace s2 := ku s2
    replace s4 := ku s4
    replace s8 := ku s8
    replace s9 := ku s9
    replace s10 := ku s10
    replace s11 := ku s11
    replace hz := zz
    clear kk zz
    refine vt (.pointer (some ⟨gu, 6, none⟩)) (ex_ix rfl (ev s94 rfl) rfl (by exact ixBool gu 6 10 cu (by omega) _)) hz (fun Ycv zz kk s95 => ?_)
    replace s2 := ku s2
    replace s4 := ku s4
    replace s8 := ku s8
    replace s9 := ku s9
    replace s10 := ku s10
    replace s11 := ku s11
    replace hz := zz
    clear kk zz s94 Ycu
    refine vt (.bool (!decide ((tabA k 6 : Int) = 0))) (ex_ld rfl (ev s95 rfl) (ldBool (HCU 6 (by omega) _ HUR))) hz (fun Ycw zz kk s96 => ?_)
    replace s2 := ku s2
    replace s4 := ku s4
    replace s8 := ku s8
    replace s9 := ku s9
    replace s10 := ku s10
    replace s11 := ku s11
    replace hz := zz
    clear kk zz s95 Ycv
    refine wpList_nil ?_
    go_upto_region 28 with fail
    refine v_cond (fun T wr => T.size = 169 ∧ T[2]? = some (gw true (.pointer (some ⟨w.heap.size, 0, none⟩))) ∧ T[4]? = some (gw true (.pointer (some ⟨(w.heap.size + 1), 0, none⟩))) ∧ T[8]? = some (gw true (.pointer (some ⟨b, 0, none⟩))) ∧ T[9]? = some (gw true (.int .i64 (k : Int))) ∧ T[10]? = some (gw true (.slice (some ⟨gu, 0, none⟩) 10 cu)) ∧ T[11]? = some (gw true (.pointer (some ⟨qm, 0, none⟩))) ∧ Hid (QD (b + 1) wr b l (rCols l k x0 7).s ∧ MS wr qm (rCols l k x0 7).m (rCols l k x0 7).L (rCols l k x0 7).D ∧ Upd (fun x => x = b ∨ qm ≤ x) y7 wr)) s96 (fun hu => ?_) (fun hu => ⟨hz, s2, s4, s8, s9, s10, s11, by rw [rCols_none (show tabA k 6 = 0 by have h0 : ((tabA k 6 : Nat) : Int) = 0 := (by simpa using hu); omega)]; exact ⟨QR, MSR, HUR⟩⟩) ?_
    · clear s96
      have ht : ¬ tabA k 6 = 0 := by intro h0; rw [h0] at hu; simp at hu
      have hX := rCols_some (l := l) (x := x0) ht
      obtain ⟨X, hXe⟩ : ∃ X, X = rCols l k x0 6 := ⟨_, rfl⟩
      rw [← hXe] at QR MSR hX
      clear hu
      have hzR := HUR.size
      obtain ⟨sv, tv, MM, OL, OD⟩ := MSR
      rw [us_op hK ht, rCol6] at hX
      go_upto_region 28 with fail
      refine wp_region_lit ?_
      refine vt _ (ex_move rfl (ev s8 rfl)) hz (fun Ycx zz kk s97 => ?_)
      replace s2 := ku s2
      replace s4 := ku s4
      replace s8 := ku s8
      replace s9 := ku s9
      replace s10 := ku s10
      replace s11 := ku s11
      replace hz := zz
      clear kk zz
      refine vt _ (ex_move rfl (ev s9 rfl)) hz (fun Ycy zz kk s98 => ?_)
      replace s2 := ku s2
      replace s4 := ku s4
      replace s8 := ku s8
      replace s9 := ku s9
      replace s10 := ku s10
      replace s11 := ku s11
      replace s97 := ku s97
      replace hz := zz
      clear kk zz Ycx
      refine vt (.bool (!decide ((k : Int) = 2))) (ex_bin rfl (ev s98 rfl) rfl (neqC _ _ _ _ _)) hz (fun Ycz zz kk s99 => ?_)
      replace s2 := ku s2
      replace s4 := ku s4
      replace s8 := ku s8
      replace s9 := ku s9
      replace s10 := ku s10
      replace s11 := ku s11
      replace s97 := ku s97
      replace hz := zz
      clear kk zz s98 Ycy
      refine vt _ (ex_move rfl (ev s99 rfl)) hz (fun Yc0 zz kk s100 => ?_)
      replace s2 := ku s2
      replace s4 := ku s4
      replace s8 := ku s8
      replace s9 := ku s9
      replace s10 := ku s10
      replace s11 := ku s11
      replace s97 := ku s97
      replace hz := zz
      clear kk zz s99 Ycz
      refine vl _ _ (want_g rfl rfl s100) (fun hc => ex_move rfl (ev s9 rfl)) rfl hz (by decide) (fun Yc1 zz kk s101 => ?_)
      replace s2 := ku s2
      replace s4 := ku s4
      replace s8 := ku s8
      replace s9 := ku s9
      replace s10 := ku s10
      replace s11 := ku s11
      replace s97 := ku s97
      replace s100 := ku s100
      replace hz := zz
      clear kk zz Yc0
      refine vl _ (.bool (!decide ((k : Int) = 14))) (want_g rfl rfl s100) (fun hc => ex_bin rfl (ev s101 hc) rfl (neqC _ _ _ _ _)) rfl hz (by decide) (fun Yc2 zz kk s102 => ?_)
      replace s2 := ku s2
      replace s4 := ku s4
      replace s8 := ku s8
      replace s9 := ku s9
      replace s10 := ku s10
      replace s11 := ku s11
      replace s97 := ku s97
      replace s100 := ku s100
      replace hz := zz
      clear kk zz s101 Yc1
      refine vt (.bool ((!decide ((k : Int) = 2)) && (!decide ((k : Int) = 14)))) (ex_and rfl s100 s102 rfl) hz (fun Yc3 zz kk s103 => ?_)
      replace s2 := ku s2
      replace s4 := ku s4
      replace s8 := ku s8
      replace s9 := ku s9
      replace s10 := ku s10
      replace s11 := ku s11
      replace s97 := ku s97
      replace hz := zz
      clear kk zz s100 s102 Yc2
      refine vcallP (want_none rfl) (ex_call rfl (by simp only [List.map_toArray, List.map_cons, List.map_nil, (ev s97 rfl), (ev s103 rfl), evc] <;> rfl) rfl) (qentry2 (b + 1) b ((!decide ((k : Int) = 2)) && (!decide ((k : Int) = 14))) l X.s _ QR) rfl hz (by decide) ?_
      rintro e z1 ⟨rfl, QN, hu1⟩; have hzN := hu1.size
      refine ⟨_, rfl, fun Yc4 zz kk s104 => ?_⟩
      have MMN := MM.upd hu1 (by omega)
      have OLN := OL.far hu1 (fun x hx => by omega)
      have ODN := OD.far hu1 (fun x hx => by omega)
      have HUN := HUR.trans (hu1.mono (fun x _ hx => .inl hx))
      have hzR2 := HUN.size
      clear QR OL OD HUR MM hu1 hzN hzR
      have QR := QN
      have OL := OLN
      have OD := ODN
      have HUR := HUN
      have MM := MMN
      have hzR := hzR2
      clear QN OLN ODN HUN MMN hzR2
      replace s2 := ku s2
      replace s4 := ku s4
      replace s8 := ku s8
      replace s9 := ku s9
      replace s10 := ku s10
      replace s11 := ku s11
      replace hz := zz
      clear kk zz s97 s103 Yc3
      refine vt (.pointer (some ⟨qm, 3, none⟩)) (ex_fa rfl (ev s11 rfl) (MBox.faEntry _ _)) hz (fun Yc5 zz kk s105 => ?_)
      replace s2 := ku s2
      replace s4 := ku s4
      replace s8 := ku s8
      replace s9 := ku s9
      replace s10 := ku s10
      replace s11 := ku s11
      replace s104 := ku s104
      replace hz := zz
      clear kk zz Yc4
      refine vs (sets z1 qm 3 [.int .i64 (rEo ((!decide ((k : Int) = 2)) && (!decide ((k : Int) = 14))) l X.s).c, .int .i64 (rEo ((!decide ((k : Int) = 2)) && (!decide ((k : Int) = 14))) l X.s).n, .int .i64 (rEo ((!decide ((k : Int) = 2)) && (!decide ((k : Int) = 14))) l X.s).o.k, .int .i64 (rEo ((!decide ((k : Int) = 2)) && (!decide ((k : Int) = 14))) l X.s).o.s, .string (rEo ((!decide ((k : Int) = 2)) && (!decide ((k : Int) = 14))) l X.s).o.v]) (want_none rfl) (ex_st rfl (ev s105 rfl) (ev s104 rfl) (MM.stAt 28 3 [.int .i64 (rEo ((!decide ((k : Int) = 2)) && (!decide ((k : Int) = 14))) l X.s).c, .int .i64 (rEo ((!decide ((k : Int) = 2)) && (!decide ((k : Int) = 14))) l X.s).n, .int .i64 (rEo ((!decide ((k : Int) = 2)) && (!decide ((k : Int) = 14))) l X.s).o.k, .int .i64 (rEo ((!decide ((k : Int) = 2)) && (!decide ((k : Int) = 14))) l X.s).o.s, .string (rEo ((!decide ((k : Int) = 2)) && (!decide ((k : Int) = 14))) l X.s).o.v] (by show 3 + 5 ≤ 18; omega) (by kernel_rfl) (by kernel_rfl))) rfl ?_
      have SP := MM.splice 3 [.int .i64 (rEo ((!decide ((k : Int) = 2)) && (!decide ((k : Int) = 14))) l X.s).c, .int .i64 (rEo ((!decide ((k : Int) = 2)) && (!decide ((k : Int) = 14))) l X.s).n, .int .i64 (rEo ((!decide ((k : Int) = 2)) && (!decide ((k : Int) = 14))) l X.s).o.k, .int .i64 (rEo ((!decide ((k : Int) = 2)) && (!decide ((k : Int) = 14))) l X.s).o.s, .string (rEo ((!decide ((k : Int) = 2)) && (!decide ((k : Int) = 14))) l X.s).o.v] { X.m with e := (rEo ((!decide ((k : Int) = 2)) && (!decide ((k : Int) = 14))) l X.s) } sv tv (by show _ + _ ≤ 18; simp) rfl
      obtain ⟨z2, hz2⟩ : ∃ y, y = sets z1 qm 3 [.int .i64 (rEo ((!decide ((k : Int) = 2)) && (!decide ((k : Int) = 14))) l X.s).c, .int .i64 (rEo ((!decide ((k : Int) = 2)) && (!decide ((k : Int) = 14))) l X.s).n, .int .i64 (rEo ((!decide ((k : Int) = 2)) && (!decide ((k : Int) = 14))) l X.s).o.k, .int .i64 (rEo ((!decide ((k : Int) = 2)) && (!decide ((k : Int) = 14))) l X.s).o.s, .string (rEo ((!decide ((k : Int) = 2)) && (!decide ((k : Int) = 14))) l X.s).o.v] := ⟨_, rfl⟩
      rw [← hz2] at SP ⊢
      clear hz2
      have QN := QR.ub (S := fun x => x = qm) SP.2 (fun x hx => by omega)
      have OLN := OL.far (S := fun x => x = qm) SP.2 (fun x hx => by omega)
      have ODN := OD.far (S := fun x => x = qm) SP.2 (fun x hx => by omega)
      have HUN := HUR.trans (SP.2.mono (fun x _ (hx : x = qm) => .inr (by omega)))
      have hzR2 := HUN.size
      clear QR OL OD HUR MM hzR
      have hzR := hzR2
      clear hzR2
      have QR := QN
      have OL := OLN
      have OD := ODN
      have HUR := HUN
      have MM := SP.1
      clear QN OLN ODN HUN SP
      clear s104 s105
      refine wpList_nil ?_
      exact ⟨_, rfl, hz, s2, s4, s8, s9, s10, s11, by rw [hX]; exact ⟨QR, ⟨sv, tv, MM, OL, OD⟩, HUR⟩⟩
    · clear hz s2 s4 s8 s9 s10 s11 s96 QR MSR HUR
      intro T6c w6c hJ
      obtain ⟨hz, s2, s4, s8, s9, s10, s11, HI⟩ := hJ
      obtain ⟨QR, MSR, HUR⟩ := HI.out
      clear HI
      go_upto_region 29 with fail
      refine wp_region_lit ?_
      refine vt _ (ex_move rfl (ev s10 rfl)) hz (fun Yc6 zz kk s106 => ?_)
      replace s2 := ku s2
      replace s4 := ku s4
      replace s8 := ku s8
      replace s9 := ku s9
      replace s10 := ku s10
      replace s11 := ku s11
      replace hz := zz
      clear kk zz
      refine vt (.pointer (some ⟨gu, 7, none⟩)) (ex_ix rfl (ev s106 rfl) rfl (by exact ixBool gu 7 10 cu (by omega) _)) hz (fun Yc7 zz kk s107 => ?_)
      replace s2 := ku s2
      replace s4 := ku s4
      replace s8 := ku s8
      replace s9 := ku s9
      replace s10 := ku s10
      replace s11 := ku s11
      replace hz := zz
      clear kk zz s106 Yc6
      refine vt (.bool (!decide ((tabA k 7 : Int) = 0))) (ex_ld rfl (ev s107 rfl) (ldBool (HCU 7 (by omega) _ HUR))) hz (fun Yc8 zz kk s108 => ?_)
      replace s2 := ku s2
      replace s4 := ku s4
      replace s8 := ku s8
      replace s9 := ku s9
      replace s10 := ku s10
      replace s11 := ku s11
      replace hz := zz
      clear kk zz s107 Yc7
      refine wpList_nil ?_
      go_upto_region 30 with fail
      refine v_cond (fun T wr => T.size = 169 ∧ T[2]? = some (gw true (.pointer (some ⟨w.heap.size, 0, none⟩))) ∧ T[4]? = some (gw true (.pointer (some ⟨(w.heap.size + 1), 0, none⟩))) ∧ T[8]? = some (gw true (.pointer (some ⟨b, 0, none⟩))) ∧ T[9]? = some (gw true (.int .i64 (k : Int))) ∧ T[10]? = some (gw true (.slice (some ⟨gu, 0, none⟩) 10 cu)) ∧ T[11]? = some (gw true (.pointer (some ⟨qm, 0, none⟩))) ∧ Hid (QD (b + 1) wr b l (rCols l k x0 8).s ∧ MS wr qm (rCols l k x0 8).m (rCols l k x0 8).L (rCols l k x0 8).D ∧ Upd (fun x => x = b ∨ qm ≤ x) y7 wr)) s108 (fun hu => ?_) (fun hu => ⟨hz, s2, s4, s8, s9, s10, s11, by rw [rCols_none (show tabA k 7 = 0 by have h0 : ((tabA k 7 : Nat) : Int) = 0 := (by simpa using hu); omega)]; exact ⟨QR, MSR, HUR⟩⟩) ?_
      · clear s108
        have ht : ¬ tabA k 7 = 0 := by intro h0; rw [h0] at hu; simp at hu
        have hX := rCols_some (l := l) (x := x0) ht
        obtain ⟨X, hXe⟩ : ∃ X, X = rCols l k x0 7 := ⟨_, rfl⟩
        rw [← hXe] at QR MSR hX
        clear hu
        have hzR := HUR.size
        obtain ⟨sv, tv, MM, OL, OD⟩ := MSR
        go_upto_region 30 with fail
        refine wp_region_lit ?_
        refine vt _ (ex_move rfl (ev s8 rfl)) hz (fun Yc9 zz kk s109 => ?_)
        replace s2 := ku s2
        replace s4 := ku s4
        replace s8 := ku s8
        replace s9 := ku s9
        replace s10 := ku s10
        replace s11 := ku s11
        replace hz := zz
        clear kk zz
        refine vcallP (want_none rfl) (ex_call rfl (by simp only [List.map_toArray, List.map_cons, List.map_nil, (ev s109 rfl), evc] <;> rfl) rfl) (qd_I (b + 1) b mxI (Int.le_refl _) l X.s _ QR) rfl hz (by decide) ?_
        rintro e z1 ⟨rfl, QN, hu1⟩; have hzN := hu1.size
        refine ⟨_, rfl, fun Yda zz kk s110 => ?_⟩
        have MMN := MM.upd hu1 (by omega)
        have OLN := OL.far hu1 (fun x hx => by omega)
        have ODN := OD.far hu1 (fun x hx => by omega)
        have HUN := HUR.trans (hu1.mono (fun x _ hx => .inl hx))
        have hzR2 := HUN.size
        clear QR OL OD HUR MM hu1 hzN hzR
        have QR := QN
        have OL := OLN
        have OD := ODN
        have HUR := HUN
        have MM := MMN
        have hzR := hzR2
        clear QN OLN ODN HUN MMN hzR2
        replace s2 := ku s2
        replace s4 := ku s4
        replace s8 := ku s8
        replace s9 := ku s9
        replace s10 := ku s10
        replace s11 := ku s11
        replace hz := zz
        clear kk zz s109 Yc9
        refine vt (.pointer (some ⟨qm, 8, none⟩)) (ex_fa rfl (ev s11 rfl) (MBox.faResult _ _)) hz (fun Ydb zz kk s111 => ?_)
        replace s2 := ku s2
        replace s4 := ku s4
        replace s8 := ku s8
        replace s9 := ku s9
        replace s10 := ku s10
        replace s11 := ku s11
        replace s110 := ku s110
        replace hz := zz
        clear kk zz Yda
        refine vt (.pointer (some ⟨qm, 8, none⟩)) (ex_fa rfl (ev s111 rfl) (faRes _ _).1) hz (fun Ydc zz kk s112 => ?_)
        replace s2 := ku s2
        replace s4 := ku s4
        replace s8 := ku s8
        replace s9 := ku s9
        replace s10 := ku s10
        replace s11 := ku s11
        replace s110 := ku s110
        replace hz := zz
        clear kk zz s111 Ydb
        refine vs (sets z1 qm 8 [.int .i64 (rI mxI l X.s : Int)]) (want_none rfl) (ex_st rfl (ev s112 rfl) (ev s110 rfl) (stInt (rI mxI l X.s : Int) (MM.cell 8 _ rfl) (MM.free 8))) rfl ?_
        have SP := MM.splice 8 [.int .i64 (rI mxI l X.s : Int)] { X.m with r := ((rI mxI l X.s : Int), X.m.r.2.1, X.m.r.2.2) } sv tv (by show _ + _ ≤ 18; simp) rfl
        obtain ⟨z2, hz2⟩ : ∃ y, y = sets z1 qm 8 [.int .i64 (rI mxI l X.s : Int)] := ⟨_, rfl⟩
        rw [← hz2] at SP ⊢
        clear hz2
        have QN := QR.ub (S := fun x => x = qm) SP.2 (fun x hx => by omega)
        have OLN := OL.far (S := fun x => x = qm) SP.2 (fun x hx => by omega)
        have ODN := OD.far (S := fun x => x = qm) SP.2 (fun x hx => by omega)
        have HUN := HUR.trans (SP.2.mono (fun x _ (hx : x = qm) => .inr (by omega)))
        have hzR2 := HUN.size
        clear QR OL OD HUR MM hzR
        have hzR := hzR2
        clear hzR2
        have QR := QN
        have OL := OLN
        have OD := ODN
        have HUR := HUN
        have MM := SP.1
        clear QN OLN ODN HUN SP
        clear s110 s112
        refine wpList_nil ?_
        go_upto_region 31 with fail
        refine wp_region_lit ?_
        refine vt _ (ex_move rfl (ev s8 rfl)) hz (fun Ydd zz kk s113 => ?_)
        replace s2 := ku s2
        replace s4 := ku s4
        replace s8 := ku s8
        replace s9 := ku s9
        replace s10 := ku s10
        replace s11 := ku s11
        replace hz := zz
        clear kk zz
        refine vcallP (want_none rfl) (ex_call rfl (by simp only [List.map_toArray, List.map_cons, List.map_nil, (ev s113 rfl), evc] <;> rfl) rfl) (qd_I (b + 1) b mxI (Int.le_refl _) l (sI mxI l X.s) _ QR) rfl hz (by decide) ?_
        rintro e z3 ⟨rfl, QN, hu1⟩; have hzN := hu1.size
        refine ⟨_, rfl, fun Yde zz kk s114 => ?_⟩
        have MMN := MM.upd hu1 (by omega)
        have OLN := OL.far hu1 (fun x hx => by omega)
        have ODN := OD.far hu1 (fun x hx => by omega)
        have HUN := HUR.trans (hu1.mono (fun x _ hx => .inl hx))
        have hzR2 := HUN.size
        clear QR OL OD HUR MM hu1 hzN hzR
        have QR := QN
        have OL := OLN
        have OD := ODN
        have HUR := HUN
        have MM := MMN
        have hzR := hzR2
        clear QN OLN ODN HUN MMN hzR2
        replace s2 := ku s2
        replace s4 := ku s4
        replace s8 := ku s8
        replace s9 := ku s9
        replace s10 := ku s10
        replace s11 := ku s11
        replace hz := zz
        clear kk zz s113 Ydd
        refine vt (.pointer (some ⟨qm, 8, none⟩)) (ex_fa rfl (ev s11 rfl) (MBox.faResult _ _)) hz (fun Ydf zz kk s115 => ?_)
        replace s2 := ku s2
        replace s4 := ku s4
        replace s8 := ku s8
        replace s9 := ku s9
        replace s10 := ku s10
        replace s11 := ku s11
        replace s114 := ku s114
        replace hz := zz
        clear kk zz Yde
        refine vt (.pointer (some ⟨qm, 9, none⟩)) (ex_fa rfl (ev s115 rfl) (faRes _ _).2.1) hz (fun Ydg zz kk s116 => ?_)
        replace s2 := ku s2
        replace s4 := ku s4
        replace s8 := ku s8
        replace s9 := ku s9
        replace s10 := ku s10
        replace s11 := ku s11
        replace s114 := ku s114
        replace hz := zz
        clear kk zz s115 Ydf
        refine vs (sets z3 qm 9 [.int .i64 (rI mxI l (sI mxI l X.s) : Int)]) (want_none rfl) (ex_st rfl (ev s116 rfl) (ev s114 rfl) (stInt (rI mxI l (sI mxI l X.s) : Int) (MM.cell 9 _ rfl) (MM.free 9))) rfl ?_
        have SP := MM.splice 9 [.int .i64 (rI mxI l (sI mxI l X.s) : Int)] { X.m with r := ((rI mxI l X.s : Int), (rI mxI l (sI mxI l X.s) : Int), X.m.r.2.2) } sv tv (by show _ + _ ≤ 18; simp) rfl
        obtain ⟨z4, hz4⟩ : ∃ y, y = sets z3 qm 9 [.int .i64 (rI mxI l (sI mxI l X.s) : Int)] := ⟨_, rfl⟩
        rw [← hz4] at SP ⊢
        clear hz4
        have QN := QR.ub (S := fun x => x = qm) SP.2 (fun x hx => by omega)
        have OLN := OL.far (S := fun x => x = qm) SP.2 (fun x hx => by omega)
        have ODN := OD.far (S := fun x => x = qm) SP.2 (fun x hx => by omega)
        have HUN := HUR.trans (SP.2.mono (fun x _ (hx : x = qm) => .inr (by omega)))
        have hzR2 := HUN.size
        clear QR OL OD HUR MM hzR
        have hzR := hzR2
        clear hzR2
        have QR := QN
        have OL := OLN
        have OD := ODN
        have HUR := HUN
        have MM := SP.1
        clear QN OLN ODN HUN SP
        clear s114 s116
        refine wpList_nil ?_
        go_upto_region 32 with fail
        refine wp_region_lit ?_
        refine vt _ (ex_move rfl (ev s8 rfl)) hz (fun Ydh zz kk s117 => ?_)
        replace s2 := ku s2
        replace s4 := ku s4
        replace s8 := ku s8
        replace s9 := ku s9
        replace s10 := ku s10
        replace s11 := ku s11
        replace hz := zz
        clear kk zz
        refine vcallP (want_none rfl) (ex_call rfl (by simp only [List.map_toArray, List.map_cons, List.map_nil, (ev s117 rfl), evc] <;> rfl) rfl) (qd_T (b + 1) b l (sI mxI l (sI mxI l X.s)) _ QR) rfl hz (by decide) ?_
        rintro e z5 ⟨rfl, QN, hu1⟩; have hzN := hu1.size
        refine ⟨_, rfl, fun Ydi zz kk s118 => ?_⟩
        have MMN := MM.upd hu1 (by omega)
        have OLN := OL.far hu1 (fun x hx => by omega)
        have ODN := OD.far hu1 (fun x hx => by omega)
        have HUN := HUR.trans (hu1.mono (fun x _ hx => .inl hx))
        have hzR2 := HUN.size
        clear QR OL OD HUR MM hu1 hzN hzR
        have QR := QN
        have OL := OLN
        have OD := ODN
        have HUR := HUN
        have MM := MMN
        have hzR := hzR2
        clear QN OLN ODN HUN MMN hzR2
        replace s2 := ku s2
        replace s4 := ku s4
        replace s8 := ku s8
        replace s9 := ku s9
        replace s10 := ku s10
        replace s11 := ku s11
        replace hz := zz
        clear kk zz s117 Ydh
        refine vt (.pointer (some ⟨qm, 8, none⟩)) (ex_fa rfl (ev s11 rfl) (MBox.faResult _ _)) hz (fun Ydj zz kk s119 => ?_)
        replace s2 := ku s2
        replace s4 := ku s4
        replace s8 := ku s8
        replace s9 := ku s9
        replace s10 := ku s10
        replace s11 := ku s11
        replace s118 := ku s118
        replace hz := zz
        clear kk zz Ydi
        refine vt (.pointer (some ⟨qm, 10, none⟩)) (ex_fa rfl (ev s119 rfl) (faRes _ _).2.2) hz (fun Ydk zz kk s120 => ?_)
        replace s2 := ku s2
        replace s4 := ku s4
        replace s8 := ku s8
        replace s9 := ku s9
        replace s10 := ku s10
        replace s11 := ku s11
        replace s118 := ku s118
        replace hz := zz
        clear kk zz s119 Ydj
        refine vs (sets z5 qm 10 [.string (rT l (sI mxI l (sI mxI l X.s)))]) (want_none rfl) (ex_st rfl (ev s120 rfl) (ev s118 rfl) (stStr (rT l (sI mxI l (sI mxI l X.s))) (MM.cell 10 _ rfl) (MM.free 10))) rfl ?_
        have SP := MM.splice 10 [.string (rT l (sI mxI l (sI mxI l X.s)))] { X.m with r := ((rI mxI l X.s : Int), (rI mxI l (sI mxI l X.s) : Int), (rT l (sI mxI l (sI mxI l X.s)))) } sv tv (by show _ + _ ≤ 18; simp) rfl
        obtain ⟨z6, hz6⟩ : ∃ y, y = sets z5 qm 10 [.string (rT l (sI mxI l (sI mxI l X.s)))] := ⟨_, rfl⟩
        rw [← hz6] at SP ⊢
        clear hz6
        have QN := QR.ub (S := fun x => x = qm) SP.2 (fun x hx => by omega)
        have OLN := OL.far (S := fun x => x = qm) SP.2 (fun x hx => by omega)
        have ODN := OD.far (S := fun x => x = qm) SP.2 (fun x hx => by omega)
        have HUN := HUR.trans (SP.2.mono (fun x _ (hx : x = qm) => .inr (by omega)))
        have hzR2 := HUN.size
        clear QR OL OD HUR MM hzR
        have hzR := hzR2
        clear hzR2
        have QR := QN
        have OL := OLN
        have OD := ODN
        have HUR := HUN
        have MM := SP.1
        clear QN OLN ODN HUN SP
        clear s118 s120
        refine wpList_nil ?_
        exact ⟨_, rfl, hz, s2, s4, s8, s9, s10, s11, by rw [hX]; exact ⟨QR, ⟨sv, tv, MM, OL, OD⟩, HUR⟩⟩
      · clear hz s2 s4 s8 s9 s10 s11 s108 QR MSR HUR
        intro T7c w7c hJ
        obtain ⟨hz, s2, s4, s8, s9, s10, s11, HI⟩ := hJ
        obtain ⟨QR, MSR, HUR⟩ := HI.out
        clear HI
        go_upto_region 33 with fail
        refine wp_region_lit ?_
        refine vt _ (ex_move rfl (ev s10 rfl)) hz (fun Ydl zz kk s121 => ?_)
        replace s2 := ku s2
        replace s4 := ku s4
        replace s8 := ku s8
        replace s9 := ku s9
        replace s10 := ku s10
        replace s11 := ku s11
        replace hz := zz
        clear kk zz
        refine vt (.pointer (some ⟨gu, 8, none⟩)) (ex_ix rfl (ev s121 rfl) rfl (by exact ixBool gu 8 10 cu (by omega) _)) hz (fun Ydm zz kk s122 => ?_)
        replace s2 := ku s2
        replace s4 := ku s4
        replace s8 := ku s8
        replace s9 := ku s9
        replace s10 := ku s10
        replace s11 := ku s11
        replace hz := zz
        clear kk zz s121 Ydl
        refine vt (.bool (!decide ((tabA k 8 : Int) = 0))) (ex_ld rfl (ev s122 rfl) (ldBool (HCU 8 (by omega) _ HUR))) hz (fun Ydn zz kk s123 => ?_)
        replace s2 := ku s2
        replace s4 := ku s4
        replace s8 := ku s8
        replace s9 := ku s9
        replace s10 := ku s10
        replace s11 := ku s11
        replace hz := zz
        clear kk zz s122 Ydm
        refine wpList_nil ?_
        go_upto_region 34 with fail
        refine v_cond (fun T wr => T.size = 169 ∧ T[2]? = some (gw true (.pointer (some ⟨w.heap.size, 0, none⟩))) ∧ T[4]? = some (gw true (.pointer (some ⟨(w.heap.size + 1), 0, none⟩))) ∧ T[8]? = some (gw true (.pointer (some ⟨b, 0, none⟩))) ∧ T[9]? = some (gw true (.int .i64 (k : Int))) ∧ T[10]? = some (gw true (.slice (some ⟨gu, 0, none⟩) 10 cu)) ∧ T[11]? = some (gw true (.pointer (some ⟨qm, 0, none⟩))) ∧ Hid (QD (b + 1) wr b l (rCols l k x0 9).s ∧ MS wr qm (rCols l k x0 9).m (rCols l k x0 9).L (rCols l k x0 9).D ∧ Upd (fun x => x = b ∨ qm ≤ x) y7 wr)) s123 (fun hu => ?_) (fun hu => ⟨hz, s2, s4, s8, s9, s10, s11, by rw [rCols_none (show tabA k 8 = 0 by have h0 : ((tabA k 8 : Nat) : Int) = 0 := (by simpa using hu); omega)]; exact ⟨QR, MSR, HUR⟩⟩) ?_
        · clear s123
          have ht : ¬ tabA k 8 = 0 := by intro h0; rw [h0] at hu; simp at hu
          have hX := rCols_some (l := l) (x := x0) ht
          obtain ⟨X, hXe⟩ : ∃ X, X = rCols l k x0 8 := ⟨_, rfl⟩
          rw [← hXe] at QR MSR hX
          clear hu
          have hzR := HUR.size
          have hX0 : X.L = [] := by rw [hXe]; exact rcL l k x0 hx0L 8 (by omega)
          have hn256 : (rI 256 l X.s) ≤ 256 := rI_le 256 (by decide) l X.s
          obtain ⟨sv, tv, MM, OL, OD⟩ := MSR
          go_upto_region 34 with fail
          refine wp_region_lit ?_
          refine vt _ (ex_move rfl (ev s8 rfl)) hz (fun Ydo zz kk s124 => ?_)
          replace s2 := ku s2
          replace s4 := ku s4
          replace s8 := ku s8
          replace s9 := ku s9
          replace s10 := ku s10
          replace s11 := ku s11
          replace hz := zz
          clear kk zz
          refine vcallP (want_none rfl) (ex_call rfl (by simp only [List.map_toArray, List.map_cons, List.map_nil, (ev s124 rfl), evc] <;> rfl) rfl) (qd_I (b + 1) b 256 (by decide) l X.s _ QR) rfl hz (by decide) ?_
          rintro e z1 ⟨rfl, QN, hu1⟩; have hzN := hu1.size
          refine ⟨_, rfl, fun Ydp zz kk s125 => ?_⟩
          have MMN := MM.upd hu1 (by omega)
          have OLN := OL.far hu1 (fun x hx => by omega)
          have ODN := OD.far hu1 (fun x hx => by omega)
          have HUN := HUR.trans (hu1.mono (fun x _ hx => .inl hx))
          have hzR2 := HUN.size
          clear QR OL OD HUR MM hu1 hzN hzR
          have QR := QN
          have OL := OLN
          have OD := ODN
          have HUR := HUN
          have MM := MMN
          have hzR := hzR2
          clear QN OLN ODN HUN MMN hzR2
          replace s2 := ku s2
          replace s4 := ku s4
          replace s8 := ku s8
          replace s9 := ku s9
          replace s10 := ku s10
          replace s11 := ku s11
          replace hz := zz
          clear kk zz s124 Ydo
          refine vt _ (ex_assign rfl (ev s125 rfl)) hz (fun Ydq zz kk s14 => ?_)
          replace s2 := ku s2
          replace s4 := ku s4
          replace s8 := ku s8
          replace s9 := ku s9
          replace s10 := ku s10
          replace s11 := ku s11
          replace hz := zz
          clear kk zz s125 Ydp
          refine wpList_nil ?_
          go_upto_region 35 with fail
          refine wp_region_lit ?_
          refine vt (.int .i64 0) (ex_assign rfl rfl) hz (fun Ydr zz kk s15 => ?_)
          replace s2 := ku s2
          replace s4 := ku s4
          replace s8 := ku s8
          replace s9 := ku s9
          replace s10 := ku s10
          replace s11 := ku s11
          replace s14 := ku s14
          replace hz := zz
          clear kk zz
          refine wpList_nil ?_
          go_upto_region 36 with fail
          refine v_loop 15 (rI 256 l X.s) (fun t T wr => T.size = 169 ∧ T[2]? = some (gw true (.pointer (some ⟨w.heap.size, 0, none⟩))) ∧ T[4]? = some (gw true (.pointer (some ⟨(w.heap.size + 1), 0, none⟩))) ∧ T[8]? = some (gw true (.pointer (some ⟨b, 0, none⟩))) ∧ T[9]? = some (gw true (.int .i64 (k : Int))) ∧ T[10]? = some (gw true (.slice (some ⟨gu, 0, none⟩) 10 cu)) ∧ T[11]? = some (gw true (.pointer (some ⟨qm, 0, none⟩))) ∧ T[14]? = some (gw true (.int .i64 ((rI 256 l X.s) : Int))) ∧ T[15]? = some (gw true (.int .i64 (t : Int))) ∧ Hid (QD (b + 1) wr b l (esS l (sI 256 l X.s) t) ∧ MS wr qm X.m (esL l (sI 256 l X.s) t) X.D ∧ Upd (fun x => x = b ∨ qm ≤ x) y7 wr)) (fun t T w h => h.2.2.2.2.2.2.2.2.1) ⟨hz, s2, s4, s8, s9, s10, s11, s14, s15, QR, ⟨sv, tv, MM, by rw [hX0] at OL; exact OL, OD⟩, HUR⟩ ?_
          clear hz s2 s4 s8 s9 s10 s11 s14 s15 QR MM OL OD HUR hzR
          intro t R0 wr ht0 hh
          obtain ⟨hz, s2, s4, s8, s9, s10, s11, s14, s15, HI⟩ := hh
          obtain ⟨QR, ⟨sv, tv, MM, OL, OD⟩, HUR⟩ := HI.out
          clear HI
          have hzR := HUR.size
          go_upto_region 36 with fail
          refine wp_region_lit ?_
          refine vt _ (ex_move rfl (ev s15 rfl)) hz (fun Yds zz kk s126 => ?_)
          replace s2 := ku s2
          replace s4 := ku s4
          replace s8 := ku s8
          replace s9 := ku s9
          replace s10 := ku s10
          replace s11 := ku s11
          replace s14 := ku s14
          replace s15 := ku s15
          replace hz := zz
          clear kk zz
          refine vt _ (ex_move rfl (ev s14 rfl)) hz (fun Ydt zz kk s127 => ?_)
          replace s2 := ku s2
          replace s4 := ku s4
          replace s8 := ku s8
          replace s9 := ku s9
          replace s10 := ku s10
          replace s11 := ku s11
          replace s14 := ku s14
          replace s15 := ku s15
          replace s126 := ku s126
          replace hz := zz
          clear kk zz Yds
          refine vt (.bool (decide ((t : Int) < ((rI 256 l X.s) : Int)))) (ex_bin rfl (ev s126 rfl) (ev s127 rfl) (lssC _ _ _ _ _)) hz (fun Ydu zz kk s128 => ?_)
          replace s2 := ku s2
          replace s4 := ku s4
          replace s8 := ku s8
          replace s9 := ku s9
          replace s10 := ku s10
          replace s11 := ku s11
          replace s14 := ku s14
          replace s15 := ku s15
          replace hz := zz
          clear kk zz s126 s127 Ydt
          refine wpList_nil ?_
          go_upto_region 38 with fail
          cases e8 : decide ((t : Int) < ((rI 256 l X.s) : Int))
          rotate_left
          · refine wp_cond_true ((ev s128 rfl).trans (congrArg Value.bool e8)) ?_
            have hlt : t < (rI 256 l X.s) := by have := of_decide_eq_true e8; omega
            clear s128 e8
            go_upto_region 38 with fail
            refine vh_start (fun _ => True) (by kernel_rfl) ?_
            have QRd := QR.later (Below.refl _ _).drew
            have MMd := MM.bel (Below.refl _ _).drew
            have OLd := OwnY.grow OL (Below.refl _ _).drew
            have ODd := OwnY.grow OD (Below.refl _ _).drew
            have HURd := HUR.trans (Upd.of_below (Below.refl _ _).drew)
            have hzRd : y7.heap.size ≤ wr.drew.heap.size := hzR
            clear QR MM OL OD HUR
            obtain ⟨wd, hwd⟩ : ∃ y, y = wr.drew := ⟨_, rfl⟩
            rw [← hwd] at QRd MMd OLd ODd HURd hzRd ⊢
            clear hwd hzR
            refine vh_take 0 true (.pointer (some ⟨qm, 16, none⟩)) rfl (by kernel_rfl) (by kernel_rfl) (by kernel_rfl) (want_none rfl) (fun hc v hv => ex_fa rfl (ev s11 rfl) (MBox.faLog _ _)) rfl hz (by decide) trivial (fun L8_1 zz kk s131 => ?_)
            replace s2 := ku s2
            replace s4 := ku s4
            replace s8 := ku s8
            replace s9 := ku s9
            replace s10 := ku s10
            replace s11 := ku s11
            replace s14 := ku s14
            replace s15 := ku s15
            replace hz := zz
            clear kk zz
            refine vh_take 2 true (.pointer (some ⟨b, 0, none⟩)) rfl (by kernel_rfl) (by kernel_rfl) (by kernel_rfl) (want_none rfl) (fun hc v hv => ex_move rfl (ev s8 rfl)) rfl hz (by decide) trivial (fun L8_2 zz kk s133 => ?_)
            replace s2 := ku s2
            replace s4 := ku s4
            replace s8 := ku s8
            replace s9 := ku s9
            replace s10 := ku s10
            replace s11 := ku s11
            replace s14 := ku s14
            replace s15 := ku s15
            replace s131 := ku s131
            replace hz := zz
            clear kk zz
            refine vh_twoR 1 3 (by kernel_rfl) rfl rfl (want_none rfl) (ex_call rfl (by simp only [List.map_toArray, List.map_cons, List.map_nil, (ev s133 rfl), evc] <;> rfl) rfl) (qentry2 (b + 1) b true l (esS l (sI 256 l X.s) t) wd QRd) rfl hz (by decide) ?_ sv wd (want_none rfl) (ex_ld rfl (ev s131 rfl) MMd.ldLog) rfl (by decide) trivial ?_
            · rintro e wc ⟨rfl, QRc, huc⟩
              refine ⟨_, rfl, trivial, fun L8_3 zz kk s134 => ?_⟩
              change _ = some (gw true (enV (rE l (esS l (sI 256 l X.s) t)))) at s134
              replace s2 := ku s2
              replace s4 := ku s4
              replace s8 := ku s8
              replace s9 := ku s9
              replace s10 := ku s10
              replace s11 := ku s11
              replace s14 := ku s14
              replace s15 := ku s15
              replace s131 := ku s131
              replace s133 := ku s133
              replace hz := zz
              clear kk zz
              have MMc := MMd.upd huc (by omega)
              have OLc := OLd.far huc (fun x hx => by omega)
              have ODc := ODd.far huc (fun x hx => by omega)
              have HURc := HURd.trans (huc.mono (fun x _ hx => .inl hx))
              have hzc := huc.size
              clear MMd OLd ODd HURd QRd huc
              obtain ⟨wb, hwb⟩ : ∃ y, y = wc.alloc (.cells (yE.cs (rE l (esS l (sI 256 l X.s) t))).toArray 28) := ⟨_, rfl⟩
              have hbb : Below wc.heap.size wc wb := by rw [hwb]; exact (Below.refl _ _).alloc (Nat.le_refl _) _
              have SB : SlY yE wb (some ⟨wc.heap.size, 0, none⟩) 1 1 [(rE l (esS l (sI 256 l X.s) t))] := by rw [hwb]; exact sl_box wc (rE l (esS l (sI 256 l X.s) t)) _
              refine vh_pair 1 4 (by kernel_rfl) rfl rfl hz sv (want_none rfl) (ex_ld rfl (ev s131 rfl) MMc.ldLog) rfl (by decide) trivial (.slice (some ⟨wc.heap.size, 0, none⟩) 1 1) wb (want_none rfl) (ex_bs rfl (by simp only [List.map_toArray, List.map_cons, List.map_nil, (ev s134 rfl)] <;> rfl) (by rw [hwb]; exact bsE _ _)) rfl (by decide) trivial ?_ ?_
              · intro L8_p1 zz kk s132x
                replace s2 := ku s2
                replace s4 := ku s4
                replace s8 := ku s8
                replace s9 := ku s9
                replace s10 := ku s10
                replace s11 := ku s11
                replace s14 := ku s14
                replace s15 := ku s15
                replace s131 := ku s131
                replace s133 := ku s133
                replace s134 := ku s134
                clear kk hz
                have hz := zz
                have s132 := s132x
                clear zz s132x
                refine vh_val 4 (.slice (some ⟨wc.heap.size, 0, none⟩) 1 1) wb rfl (by kernel_rfl) (want_none rfl) (ex_bs rfl (by simp only [List.map_toArray, List.map_cons, List.map_nil, (ev s134 rfl)] <;> rfl) (by rw [hwb]; exact bsE _ _)) rfl hz (by decide) trivial (fun L8_4 zz kk s135 => ?_)
                replace s2 := ku s2
                replace s4 := ku s4
                replace s8 := ku s8
                replace s9 := ku s9
                replace s10 := ku s10
                replace s11 := ku s11
                replace s14 := ku s14
                replace s15 := ku s15
                replace s131 := ku s131
                replace s133 := ku s133
                replace s134 := ku s134
                replace s132 := ku s132
                replace hz := zz
                clear kk zz
                have hlen : ((esL l (sI 256 l X.s) t)).length = t := by simp [esL]
                obtain ⟨va, wa, hra, oa, ga, na⟩ := run_appY kE wb 34 (qm + 1) _ sv (some ⟨wc.heap.size, 0, none⟩) 1 1 [(rE l (esS l (sI 256 l X.s) t))] SB (OwnY.grow OLc hbb) (by have := hbb.size; omega) (by rw [hlen]; unfold maxLen; omega) (by rw [hlen]; show (t + 1) * 48 ≤ _; omega)
                refine vh_val 5 va wa rfl (by kernel_rfl) (want_none rfl) (ex_app rfl (ev s132 rfl) (ev s135 rfl) hra) rfl hz (by decide) trivial (fun L8_5 zz kk s136 => ?_)
                replace s2 := ku s2
                replace s4 := ku s4
                replace s8 := ku s8
                replace s9 := ku s9
                replace s10 := ku s10
                replace s11 := ku s11
                replace s14 := ku s14
                replace s15 := ku s15
                replace s131 := ku s131
                replace s133 := ku s133
                replace s134 := ku s134
                replace s132 := ku s132
                replace s135 := ku s135
                replace hz := zz
                clear kk zz
                have uA : Upd (fun x => sv.ownBlock = some x) wc wa := (Upd.of_below hbb).trans (gupd9 ga)
                have hqL : ∀ x, sv.ownBlock = some x → qm + 1 ≤ x := fun x hx => (OLc.blk x hx).1
                have MMa := MMc.upd uA (fun e => by have := hqL _ e; omega)
                have QRa := QRc.ub uA (fun x hx e => by have := hqL _ e; omega)
                have OYa := OwnY.upd1 ODc uA (fun g hg e => apart9 OLc ODc (by decide) g e hg)
                have HURa := HURc.trans (uA.mono (fun x _ hx => .inr (by have := hqL _ hx; omega)))
                obtain ⟨vA, vC, hva, _⟩ := oa.form
                subst hva
                clear hra ga na SB hbb hwb uA MMc QRc OLc ODc HURc
                refine vh_take 6 true (.pointer (some ⟨qm, 16, none⟩)) rfl (by kernel_rfl) (by kernel_rfl) (by kernel_rfl) (want_none rfl) (fun hc v hv => ex_fa rfl (ev s11 rfl) (MBox.faLog _ _)) rfl hz (by decide) trivial (fun L8_6 zz kk s137 => ?_)
                replace s2 := ku s2
                replace s4 := ku s4
                replace s8 := ku s8
                replace s9 := ku s9
                replace s10 := ku s10
                replace s11 := ku s11
                replace s14 := ku s14
                replace s15 := ku s15
                replace s131 := ku s131
                replace s133 := ku s133
                replace s134 := ku s134
                replace s132 := ku s132
                replace s135 := ku s135
                replace s136 := ku s136
                replace hz := zz
                clear kk zz
                refine vh_store 7 (sets wa qm 16 [.slice vA ((esL l (sI 256 l X.s) t) ++ [(rE l (esS l (sI 256 l X.s) t))]).length vC]) rfl (by kernel_rfl) (want_none rfl) (ex_st rfl (ev s137 rfl) (ev s136 rfl) (stSlE vA _ vC (MMa.cell 16 _ rfl) (MMa.free 16))) rfl trivial ?_
                have SP := MMa.splice 16 [.slice vA ((esL l (sI 256 l X.s) t) ++ [(rE l (esS l (sI 256 l X.s) t))]).length vC] X.m (.slice vA ((esL l (sI 256 l X.s) t) ++ [(rE l (esS l (sI 256 l X.s) t))]).length vC) tv (by show _ + _ ≤ 18; simp) rfl
                obtain ⟨wz, hwz⟩ : ∃ y, y = sets wa qm 16 [.slice vA ((esL l (sI 256 l X.s) t) ++ [(rE l (esS l (sI 256 l X.s) t))]).length vC] := ⟨_, rfl⟩
                rw [← hwz] at SP ⊢
                clear hwz
                refine vh_done (by kernel_rfl) ?_
                have QZ := QRa.ub (S := fun x => x = qm) SP.2 (fun x hx => by omega)
                have oz := oa.far (S := fun x => x = qm) SP.2 (fun x hx => by omega)
                have OYz := OYa.far (S := fun x => x = qm) SP.2 (fun x hx => by omega)
                have HUZ := HURa.trans (SP.2.mono (fun x _ hx => .inr (by omega)))
                rw [← esL_snoc] at oz SP
                have MSZ : MS wz qm X.m (esL l (sI 256 l X.s) (t + 1)) X.D := ⟨_, _, SP.1, oz, OYz⟩
                have QZ2 : QD (b + 1) wz b l (esS l (sI 256 l X.s) (t + 1)) := QZ
                clear SP oz OYz QZ MMa QRa OYa HURa oa
                clear s131 s133 s134 s132 s135 s136 s137
                go_upto_region 37 with fail
                refine wp_region_lit ?_
                refine vt _ (ex_move rfl (ev s15 rfl)) hz (fun Ydv zz kk s129 => ?_)
                replace s2 := ku s2
                replace s4 := ku s4
                replace s8 := ku s8
                replace s9 := ku s9
                replace s10 := ku s10
                replace s11 := ku s11
                replace s14 := ku s14
                replace s15 := ku s15
                replace hz := zz
                clear kk zz
                refine vt (.int .i64 ((t + 1 : Nat) : Int)) (ex_bin rfl (ev s129 rfl) rfl (addJ t (by omega) _ _ _)) hz (fun Ydw zz kk s130 => ?_)
                replace s2 := ku s2
                replace s4 := ku s4
                replace s8 := ku s8
                replace s9 := ku s9
                replace s10 := ku s10
                replace s11 := ku s11
                replace s14 := ku s14
                replace s15 := ku s15
                replace hz := zz
                clear kk zz s129 Ydv
                refine vt _ (ex_assign rfl (ev s130 rfl)) hz (fun Ydx zz kk s15x => ?_)
                replace s2 := ku s2
                replace s4 := ku s4
                replace s8 := ku s8
                replace s9 := ku s9
                replace s10 := ku s10
                replace s11 := ku s11
                replace s14 := ku s14
                clear kk hz s130 s15
                have hz := zz
                have s15 := s15x
                clear zz s15x Ydw
                refine wpList_nil ?_
                exact ⟨_, rfl, by omega, hz, s2, s4, s8, s9, s10, s11, s14, s15, QZ2, MSZ, HUZ⟩
              · intro L8_p2 zz kk s135x
                replace s2 := ku s2
                replace s4 := ku s4
                replace s8 := ku s8
                replace s9 := ku s9
                replace s10 := ku s10
                replace s11 := ku s11
                replace s14 := ku s14
                replace s15 := ku s15
                replace s131 := ku s131
                replace s133 := ku s133
                replace s134 := ku s134
                clear kk hz
                have hz := zz
                have s135 := s135x
                clear zz s135x
                refine vh_val 1 sv wb rfl (by kernel_rfl) (want_none rfl) (ex_ld rfl (ev s131 rfl) (MMc.bel hbb).ldLog) rfl hz (by decide) trivial (fun L8_7 zz kk s132 => ?_)
                replace s2 := ku s2
                replace s4 := ku s4
                replace s8 := ku s8
                replace s9 := ku s9
                replace s10 := ku s10
                replace s11 := ku s11
                replace s14 := ku s14
                replace s15 := ku s15
                replace s131 := ku s131
                replace s133 := ku s133
                replace s134 := ku s134
                replace s135 := ku s135
                replace hz := zz
                clear kk zz
                have hlen : ((esL l (sI 256 l X.s) t)).length = t := by simp [esL]
                obtain ⟨va, wa, hra, oa, ga, na⟩ := run_appY kE wb 34 (qm + 1) _ sv (some ⟨wc.heap.size, 0, none⟩) 1 1 [(rE l (esS l (sI 256 l X.s) t))] SB (OwnY.grow OLc hbb) (by have := hbb.size; omega) (by rw [hlen]; unfold maxLen; omega) (by rw [hlen]; show (t + 1) * 48 ≤ _; omega)
                refine vh_val 5 va wa rfl (by kernel_rfl) (want_none rfl) (ex_app rfl (ev s132 rfl) (ev s135 rfl) hra) rfl hz (by decide) trivial (fun L8_8 zz kk s136 => ?_)
                replace s2 := ku s2
                replace s4 := ku s4
                replace s8 := ku s8
                replace s9 := ku s9
                replace s10 := ku s10
                replace s11 := ku s11
                replace s14 := ku s14
                replace s15 := ku s15
                replace s131 := ku s131
                replace s133 := ku s133
                replace s134 := ku s134
                replace s135 := ku s135
                replace s132 := ku s132
                replace hz := zz
                clear kk zz
                have uA : Upd (fun x => sv.ownBlock = some x) wc wa := (Upd.of_below hbb).trans (gupd9 ga)
                have hqL : ∀ x, sv.ownBlock = some x → qm + 1 ≤ x := fun x hx => (OLc.blk x hx).1
                have MMa := MMc.upd uA (fun e => by have := hqL _ e; omega)
                have QRa := QRc.ub uA (fun x hx e => by have := hqL _ e; omega)
                have OYa := OwnY.upd1 ODc uA (fun g hg e => apart9 OLc ODc (by decide) g e hg)
                have HURa := HURc.trans (uA.mono (fun x _ hx => .inr (by have := hqL _ hx; omega)))
                obtain ⟨vA, vC, hva, _⟩ := oa.form
                subst hva
                clear hra ga na SB hbb hwb uA MMc QRc OLc ODc HURc
                refine vh_take 6 true (.pointer (some ⟨qm, 16, none⟩)) rfl (by kernel_rfl) (by kernel_rfl) (by kernel_rfl) (want_none rfl) (fun hc v hv => ex_fa rfl (ev s11 rfl) (MBox.faLog _ _)) rfl hz (by decide) trivial (fun L8_9 zz kk s137 => ?_)
                replace s2 := ku s2
                replace s4 := ku s4
                replace s8 := ku s8
                replace s9 := ku s9
                replace s10 := ku s10
                replace s11 := ku s11
                replace s14 := ku s14
                replace s15 := ku s15
                replace s131 := ku s131
                replace s133 := ku s133
                replace s134 := ku s134
                replace s135 := ku s135
                replace s132 := ku s132
                replace s136 := ku s136
                replace hz := zz
                clear kk zz
                refine vh_store 7 (sets wa qm 16 [.slice vA ((esL l (sI 256 l X.s) t) ++ [(rE l (esS l (sI 256 l X.s) t))]).length vC]) rfl (by kernel_rfl) (want_none rfl) (ex_st rfl (ev s137 rfl) (ev s136 rfl) (stSlE vA _ vC (MMa.cell 16 _ rfl) (MMa.free 16))) rfl trivial ?_
                have SP := MMa.splice 16 [.slice vA ((esL l (sI 256 l X.s) t) ++ [(rE l (esS l (sI 256 l X.s) t))]).length vC] X.m (.slice vA ((esL l (sI 256 l X.s) t) ++ [(rE l (esS l (sI 256 l X.s) t))]).length vC) tv (by show _ + _ ≤ 18; simp) rfl
                obtain ⟨wz, hwz⟩ : ∃ y, y = sets wa qm 16 [.slice vA ((esL l (sI 256 l X.s) t) ++ [(rE l (esS l (sI 256 l X.s) t))]).length vC] := ⟨_, rfl⟩
                rw [← hwz] at SP ⊢
                clear hwz
                refine vh_done (by kernel_rfl) ?_
                have QZ := QRa.ub (S := fun x => x = qm) SP.2 (fun x hx => by omega)
                have oz := oa.far (S := fun x => x = qm) SP.2 (fun x hx => by omega)
                have OYz := OYa.far (S := fun x => x = qm) SP.2 (fun x hx => by omega)
                have HUZ := HURa.trans (SP.2.mono (fun x _ hx => .inr (by omega)))
                rw [← esL_snoc] at oz SP
                have MSZ : MS wz qm X.m (esL l (sI 256 l X.s) (t + 1)) X.D := ⟨_, _, SP.1, oz, OYz⟩
                have QZ2 : QD (b + 1) wz b l (esS l (sI 256 l X.s) (t + 1)) := QZ
                clear SP oz OYz QZ MMa QRa OYa HURa oa
                clear s131 s133 s134 s135 s132 s136 s137
                go_upto_region 37 with fail
                refine wp_region_lit ?_
                refine vt _ (ex_move rfl (ev s15 rfl)) hz (fun Ydy zz kk s129 => ?_)
                replace s2 := ku s2
                replace s4 := ku s4
                replace s8 := ku s8
                replace s9 := ku s9
                replace s10 := ku s10
                replace s11 := ku s11
                replace s14 := ku s14
                replace s15 := ku s15
                replace hz := zz
                clear kk zz
                refine vt (.int .i64 ((t + 1 : Nat) : Int)) (ex_bin rfl (ev s129 rfl) rfl (addJ t (by omega) _ _ _)) hz (fun Ydz zz kk s130 => ?_)
                replace s2 := ku s2
                replace s4 := ku s4
                replace s8 := ku s8
                replace s9 := ku s9
                replace s10 := ku s10
                replace s11 := ku s11
                replace s14 := ku s14
                replace s15 := ku s15
                replace hz := zz
                clear kk zz s129 Ydy
                refine vt _ (ex_assign rfl (ev s130 rfl)) hz (fun Yd0 zz kk s15x => ?_)
                replace s2 := ku s2
                replace s4 := ku s4
                replace s8 := ku s8
                replace s9 := ku s9
                replace s10 := ku s10
                replace s11 := ku s11
                replace s14 := ku s14
                clear kk hz s130 s15
                have hz := zz
                have s15 := s15x
                clear zz s15x Ydz
                refine wpList_nil ?_
                exact ⟨_, rfl, by omega, hz, s2, s4, s8, s9, s10, s11, s14, s15, QZ2, MSZ, HUZ⟩
            · intro L8_10 zz kk s132x
              replace s2 := ku s2
              replace s4 := ku s4
              replace s8 := ku s8
              replace s9 := ku s9
              replace s10 := ku s10
              replace s11 := ku s11
              replace s14 := ku s14
              replace s15 := ku s15
              replace s131 := ku s131
              replace s133 := ku s133
              clear kk hz
              have hz := zz
              have s132 := s132x
              clear zz s132x
              refine vh_call 3 rfl (by kernel_rfl) (want_none rfl) (ex_call rfl (by simp only [List.map_toArray, List.map_cons, List.map_nil, (ev s133 rfl), evc] <;> rfl) rfl) (qentry2 (b + 1) b true l (esS l (sI 256 l X.s) t) wd QRd) rfl hz (by decide) ?_
              rintro e wc ⟨rfl, QRc, huc⟩
              refine ⟨_, rfl, trivial, fun L8_11 zz kk s134 => ?_⟩
              change _ = some (gw true (enV (rE l (esS l (sI 256 l X.s) t)))) at s134
              replace s2 := ku s2
              replace s4 := ku s4
              replace s8 := ku s8
              replace s9 := ku s9
              replace s10 := ku s10
              replace s11 := ku s11
              replace s14 := ku s14
              replace s15 := ku s15
              replace s131 := ku s131
              replace s133 := ku s133
              replace s132 := ku s132
              replace hz := zz
              clear kk zz
              have MMc := MMd.upd huc (by omega)
              have OLc := OLd.far huc (fun x hx => by omega)
              have ODc := ODd.far huc (fun x hx => by omega)
              have HURc := HURd.trans (huc.mono (fun x _ hx => .inl hx))
              have hzc := huc.size
              clear MMd OLd ODd HURd QRd huc
              obtain ⟨wb, hwb⟩ : ∃ y, y = wc.alloc (.cells (yE.cs (rE l (esS l (sI 256 l X.s) t))).toArray 28) := ⟨_, rfl⟩
              have hbb : Below wc.heap.size wc wb := by rw [hwb]; exact (Below.refl _ _).alloc (Nat.le_refl _) _
              have SB : SlY yE wb (some ⟨wc.heap.size, 0, none⟩) 1 1 [(rE l (esS l (sI 256 l X.s) t))] := by rw [hwb]; exact sl_box wc (rE l (esS l (sI 256 l X.s) t)) _
              refine vh_val 4 (.slice (some ⟨wc.heap.size, 0, none⟩) 1 1) wb rfl (by kernel_rfl) (want_none rfl) (ex_bs rfl (by simp only [List.map_toArray, List.map_cons, List.map_nil, (ev s134 rfl)] <;> rfl) (by rw [hwb]; exact bsE _ _)) rfl hz (by decide) trivial (fun L8_12 zz kk s135 => ?_)
              replace s2 := ku s2
              replace s4 := ku s4
              replace s8 := ku s8
              replace s9 := ku s9
              replace s10 := ku s10
              replace s11 := ku s11
              replace s14 := ku s14
              replace s15 := ku s15
              replace s131 := ku s131
              replace s133 := ku s133
              replace s132 := ku s132
              replace s134 := ku s134
              replace hz := zz
              clear kk zz
              have hlen : ((esL l (sI 256 l X.s) t)).length = t := by simp [esL]
              obtain ⟨va, wa, hra, oa, ga, na⟩ := run_appY kE wb 34 (qm + 1) _ sv (some ⟨wc.heap.size, 0, none⟩) 1 1 [(rE l (esS l (sI 256 l X.s) t))] SB (OwnY.grow OLc hbb) (by have := hbb.size; omega) (by rw [hlen]; unfold maxLen; omega) (by rw [hlen]; show (t + 1) * 48 ≤ _; omega)
              refine vh_val 5 va wa rfl (by kernel_rfl) (want_none rfl) (ex_app rfl (ev s132 rfl) (ev s135 rfl) hra) rfl hz (by decide) trivial (fun L8_13 zz kk s136 => ?_)
              replace s2 := ku s2
              replace s4 := ku s4
              replace s8 := ku s8
              replace s9 := ku s9
              replace s10 := ku s10
              replace s11 := ku s11
              replace s14 := ku s14
              replace s15 := ku s15
              replace s131 := ku s131
              replace s133 := ku s133
              replace s132 := ku s132
              replace s134 := ku s134
              replace s135 := ku s135
              replace hz := zz
              clear kk zz
              have uA : Upd (fun x => sv.ownBlock = some x) wc wa := (Upd.of_below hbb).trans (gupd9 ga)
              have hqL : ∀ x, sv.ownBlock = some x → qm + 1 ≤ x := fun x hx => (OLc.blk x hx).1
              have MMa := MMc.upd uA (fun e => by have := hqL _ e; omega)
              have QRa := QRc.ub uA (fun x hx e => by have := hqL _ e; omega)
              have OYa := OwnY.upd1 ODc uA (fun g hg e => apart9 OLc ODc (by decide) g e hg)
              have HURa := HURc.trans (uA.mono (fun x _ hx => .inr (by have := hqL _ hx; omega)))
              obtain ⟨vA, vC, hva, _⟩ := oa.form
              subst hva
              clear hra ga na SB hbb hwb uA MMc QRc OLc ODc HURc
              refine vh_take 6 true (.pointer (some ⟨qm, 16, none⟩)) rfl (by kernel_rfl) (by kernel_rfl) (by kernel_rfl) (want_none rfl) (fun hc v hv => ex_fa rfl (ev s11 rfl) (MBox.faLog _ _)) rfl hz (by decide) trivial (fun L8_14 zz kk s137 => ?_)
              replace s2 := ku s2
              replace s4 := ku s4
              replace s8 := ku s8
              replace s9 := ku s9
              replace s10 := ku s10
              replace s11 := ku s11
              replace s14 := ku s14
              replace s15 := ku s15
              replace s131 := ku s131
              replace s133 := ku s133
              replace s132 := ku s132
              replace s134 := ku s134
              replace s135 := ku s135
              replace s136 := ku s136
              replace hz := zz
              clear kk zz
              refine vh_store 7 (sets wa qm 16 [.slice vA ((esL l (sI 256 l X.s) t) ++ [(rE l (esS l (sI 256 l X.s) t))]).length vC]) rfl (by kernel_rfl) (want_none rfl) (ex_st rfl (ev s137 rfl) (ev s136 rfl) (stSlE vA _ vC (MMa.cell 16 _ rfl) (MMa.free 16))) rfl trivial ?_
              have SP := MMa.splice 16 [.slice vA ((esL l (sI 256 l X.s) t) ++ [(rE l (esS l (sI 256 l X.s) t))]).length vC] X.m (.slice vA ((esL l (sI 256 l X.s) t) ++ [(rE l (esS l (sI 256 l X.s) t))]).length vC) tv (by show _ + _ ≤ 18; simp) rfl
              obtain ⟨wz, hwz⟩ : ∃ y, y = sets wa qm 16 [.slice vA ((esL l (sI 256 l X.s) t) ++ [(rE l (esS l (sI 256 l X.s) t))]).length vC] := ⟨_, rfl⟩
              rw [← hwz] at SP ⊢
              clear hwz
              refine vh_done (by kernel_rfl) ?_
              have QZ := QRa.ub (S := fun x => x = qm) SP.2 (fun x hx => by omega)
              have oz := oa.far (S := fun x => x = qm) SP.2 (fun x hx => by omega)
              have OYz := OYa.far (S := fun x => x = qm) SP.2 (fun x hx => by omega)
              have HUZ := HURa.trans (SP.2.mono (fun x _ hx => .inr (by omega)))
              rw [← esL_snoc] at oz SP
              have MSZ : MS wz qm X.m (esL l (sI 256 l X.s) (t + 1)) X.D := ⟨_, _, SP.1, oz, OYz⟩
              have QZ2 : QD (b + 1) wz b l (esS l (sI 256 l X.s) (t + 1)) := QZ
              clear SP oz OYz QZ MMa QRa OYa HURa oa
              clear s131 s133 s132 s134 s135 s136 s137
              go_upto_region 37 with fail
              refine wp_region_lit ?_
              refine vt _ (ex_move rfl (ev s15 rfl)) hz (fun Yd1 zz kk s129 => ?_)
              replace s2 := ku s2
              replace s4 := ku s4
              replace s8 := ku s8
              replace s9 := ku s9
              replace s10 := ku s10
              replace s11 := ku s11
              replace s14 := ku s14
              replace s15 := ku s15
              replace hz := zz
              clear kk zz
              refine vt (.int .i64 ((t + 1 : Nat) : Int)) (ex_bin rfl (ev s129 rfl) rfl (addJ t (by omega) _ _ _)) hz (fun Yd2 zz kk s130 => ?_)
              replace s2 := ku s2
              replace s4 := ku s4
              replace s8 := ku s8
              replace s9 := ku s9
              replace s10 := ku s10
              replace s11 := ku s11
              replace s14 := ku s14
              replace s15 := ku s15
              replace hz := zz
              clear kk zz s129 Yd1
              refine vt _ (ex_assign rfl (ev s130 rfl)) hz (fun Yd3 zz kk s15x => ?_)
              replace s2 := ku s2
              replace s4 := ku s4
              replace s8 := ku s8
              replace s9 := ku s9
              replace s10 := ku s10
              replace s11 := ku s11
              replace s14 := ku s14
              clear kk hz s130 s15
              have hz := zz
              have s15 := s15x
              clear zz s15x Yd2
              refine wpList_nil ?_
              exact ⟨_, rfl, by omega, hz, s2, s4, s8, s9, s10, s11, s14, s15, QZ2, MSZ, HUZ⟩
          refine wp_cond_false ((ev s128 rfl).trans (congrArg Value.bool e8)) ?_
          have htn : t = (rI 256 l X.s) := by have := of_decide_eq_false e8; omega
          subst htn
          clear s128 e8
          go_wp2
          exact ⟨_, rfl, hz, s2, s4, s8, s9, s10, s11, by rw [hX]; exact ⟨QR, ⟨sv, tv, MM, OL, OD⟩, HUR⟩⟩
        · clear hz s2 s4 s8 s9 s10 s11 s123 QR MSR HUR
          intro T8c w8c hJ
          obtain ⟨hz, s2, s4, s8, s9, s10, s11, HI⟩ := hJ
          obtain ⟨QR, MSR, HUR⟩ := HI.out
          clear HI
          go_upto_region 39 with fail
          refine wp_region_lit ?_
          refine vt _ (ex_move rfl (ev s10 rfl)) hz (fun Yd4 zz kk s138 => ?_)
          replace s2 := ku s2
          replace s4 := ku s4
          replace s8 := ku s8
          replace s9 := ku s9
          replace s10 := ku s10
          replace s11 := ku s11
          replace hz := zz
          clear kk zz
          refine vt (.pointer (some ⟨gu, 9, none⟩)) (ex_ix rfl (ev s138 rfl) rfl (by exact ixBool gu 9 10 cu (by omega) _)) hz (fun Yd5 zz kk s139 => ?_)
          replace s2 := ku s2
          replace s4 := ku s4
          replace s8 := ku s8
          replace s9 := ku s9
          replace s10 := ku s10
          replace s11 := ku s11
          replace hz := zz
          clear kk zz s138 Yd4
          refine vt (.bool (!decide ((tabA k 9 : Int) = 0))) (ex_ld rfl (ev s139 rfl) (ldBool (HCU 9 (by omega) _ HUR))) hz (fun Yd6 zz kk s140 => ?_)
          replace s2 := ku s2
          replace s4 := ku s4
          replace s8 := ku s8
          replace s9 := ku s9
          replace s10 := ku s10
          replace s11 := ku s11
          replace hz := zz
          clear kk zz s139 Yd5
          refine wpList_nil ?_
          go_upto_region 40 with fail
          refine v_cond (fun T wr => T.size = 169 ∧ T[2]? = some (gw true (.pointer (some ⟨w.heap.size, 0, none⟩))) ∧ T[4]? = some (gw true (.pointer (some ⟨(w.heap.size + 1), 0, none⟩))) ∧ T[8]? = some (gw true (.pointer (some ⟨b, 0, none⟩))) ∧ T[9]? = some (gw true (.int .i64 (k : Int))) ∧ T[10]? = some (gw true (.slice (some ⟨gu, 0, none⟩) 10 cu)) ∧ T[11]? = some (gw true (.pointer (some ⟨qm, 0, none⟩))) ∧ Hid (QD (b + 1) wr b l (rCols l k x0 10).s ∧ MS wr qm (rCols l k x0 10).m (rCols l k x0 10).L (rCols l k x0 10).D ∧ Upd (fun x => x = b ∨ qm ≤ x) y7 wr)) s140 (fun hu => ?_) (fun hu => ⟨hz, s2, s4, s8, s9, s10, s11, by rw [rCols_none (show tabA k 9 = 0 by have h0 : ((tabA k 9 : Nat) : Int) = 0 := (by simpa using hu); omega)]; exact ⟨QR, MSR, HUR⟩⟩) ?_
          · clear s140
            have ht : ¬ tabA k 9 = 0 := by intro h0; rw [h0] at hu; simp at hu
            have hX := rCols_some (l := l) (x := x0) ht
            obtain ⟨X, hXe⟩ : ∃ X, X = rCols l k x0 9 := ⟨_, rfl⟩
            rw [← hXe] at QR MSR hX
            clear hu
            have hzR := HUR.size
            have hX0 : X.D = [] := by rw [hXe]; exact rcD l k x0 hx0D 9 (by omega)
            have hn256 : (rI 7 l X.s) ≤ 7 := rI_le 7 (by decide) l X.s
            obtain ⟨sv, tv, MM, OL, OD⟩ := MSR
            go_upto_region 40 with fail
            refine wp_region_lit ?_
            refine vt _ (ex_move rfl (ev s8 rfl)) hz (fun Yd7 zz kk s141 => ?_)
            replace s2 := ku s2
            replace s4 := ku s4
            replace s8 := ku s8
            replace s9 := ku s9
            replace s10 := ku s10
            replace s11 := ku s11
            replace hz := zz
            clear kk zz
            refine vcallP (want_none rfl) (ex_call rfl (by simp only [List.map_toArray, List.map_cons, List.map_nil, (ev s141 rfl), evc] <;> rfl) rfl) (qd_I (b + 1) b 7 (by decide) l X.s _ QR) rfl hz (by decide) ?_
            rintro e z1 ⟨rfl, QN, hu1⟩; have hzN := hu1.size
            refine ⟨_, rfl, fun Yd8 zz kk s142 => ?_⟩
            have MMN := MM.upd hu1 (by omega)
            have OLN := OL.far hu1 (fun x hx => by omega)
            have ODN := OD.far hu1 (fun x hx => by omega)
            have HUN := HUR.trans (hu1.mono (fun x _ hx => .inl hx))
            have hzR2 := HUN.size
            clear QR OL OD HUR MM hu1 hzN hzR
            have QR := QN
            have OL := OLN
            have OD := ODN
            have HUR := HUN
            have MM := MMN
            have hzR := hzR2
            clear QN OLN ODN HUN MMN hzR2
            replace s2 := ku s2
            replace s4 := ku s4
            replace s8 := ku s8
            replace s9 := ku s9
            replace s10 := ku s10
            replace s11 := ku s11
            replace hz := zz
            clear kk zz s141 Yd7
            refine vt _ (ex_assign rfl (ev s142 rfl)) hz (fun Yd9 zz kk s16 => ?_)
            replace s2 := ku s2
            replace s4 := ku s4
            replace s8 := ku s8
            replace s9 := ku s9
            replace s10 := ku s10
            replace s11 := ku s11
            replace hz := zz
            clear kk zz s142 Yd8
            refine wpList_nil ?_
            go_upto_region 41 with fail
            refine wp_region_lit ?_
            refine vt (.int .i64 0) (ex_assign rfl rfl) hz (fun Yea zz kk s17 => ?_)
            replace s2 := ku s2
            replace s4 := ku s4
            replace s8 := ku s8
            replace s9 := ku s9
            replace s10 := ku s10
            replace s11 := ku s11
            replace s16 := ku s16
            replace hz := zz
            clear kk zz
            refine wpList_nil ?_
            go_upto_region 42 with fail
            refine v_loop 17 (rI 7 l X.s) (fun t T wr => T.size = 169 ∧ T[2]? = some (gw true (.pointer (some ⟨w.heap.size, 0, none⟩))) ∧ T[4]? = some (gw true (.pointer (some ⟨(w.heap.size + 1), 0, none⟩))) ∧ T[8]? = some (gw true (.pointer (some ⟨b, 0, none⟩))) ∧ T[9]? = some (gw true (.int .i64 (k : Int))) ∧ T[10]? = some (gw true (.slice (some ⟨gu, 0, none⟩) 10 cu)) ∧ T[11]? = some (gw true (.pointer (some ⟨qm, 0, none⟩))) ∧ T[16]? = some (gw true (.int .i64 ((rI 7 l X.s) : Int))) ∧ T[17]? = some (gw true (.int .i64 (t : Int))) ∧ Hid (QD (b + 1) wr b l (dsS l (sI 7 l X.s) t) ∧ MS wr qm X.m X.L (dsL l (sI 7 l X.s) t) ∧ Upd (fun x => x = b ∨ qm ≤ x) y7 wr)) (fun t T w h => h.2.2.2.2.2.2.2.2.1) ⟨hz, s2, s4, s8, s9, s10, s11, s16, s17, QR, ⟨sv, tv, MM, OL, by rw [hX0] at OD; exact OD⟩, HUR⟩ ?_
            clear hz s2 s4 s8 s9 s10 s11 s16 s17 QR MM OL OD HUR hzR
            intro t R0 wr ht0 hh
            obtain ⟨hz, s2, s4, s8, s9, s10, s11, s16, s17, HI⟩ := hh
            obtain ⟨QR, ⟨sv, tv, MM, OL, OD⟩, HUR⟩ := HI.out
            clear HI
            have hzR := HUR.size
            go_upto_region 42 with fail
            refine wp_region_lit ?_
            refine vt _ (ex_move rfl (ev s17 rfl)) hz (fun Yeb zz kk s143 => ?_)
            replace s2 := ku s2
            replace s4 := ku s4
            replace s8 := ku s8
            replace s9 := ku s9
            replace s10 := ku s10
            replace s11 := ku s11
            replace s16 := ku s16
            replace s17 := ku s17
            replace hz := zz
            clear kk zz
            refine vt _ (ex_move rfl (ev s16 rfl)) hz (fun Yec zz kk s144 => ?_)
            replace s2 := ku s2
            replace s4 := ku s4
            replace s8 := ku s8
            replace s9 := ku s9
            replace s10 := ku s10
            replace s11 := ku s11
            replace s16 := ku s16
            replace s17 := ku s17
            replace s143 := ku s143
            replace hz := zz
            clear kk zz Yeb
            refine vt (.bool (decide ((t : Int) < ((rI 7 l X.s) : Int)))) (ex_bin rfl (ev s143 rfl) (ev s144 rfl) (lssC _ _ _ _ _)) hz (fun Yed zz kk s145 => ?_)
            replace s2 := ku s2
            replace s4 := ku s4
            replace s8 := ku s8
            replace s9 := ku s9
            replace s10 := ku s10
            replace s11 := ku s11
            replace s16 := ku s16
            replace s17 := ku s17
            replace hz := zz
            clear kk zz s143 s144 Yec
            refine wpList_nil ?_
            go_upto_region 44 with fail
            cases e8 : decide ((t : Int) < ((rI 7 l X.s) : Int))
            rotate_left
            · refine wp_cond_true ((ev s145 rfl).trans (congrArg Value.bool e8)) ?_
              have hlt : t < (rI 7 l X.s) := by have := of_decide_eq_true e8; omega
              clear s145 e8
              go_upto_region 44 with fail
              refine vh_start (fun _ => True) (by kernel_rfl) ?_
              have QRd := QR.later (Below.refl _ _).drew
              have MMd := MM.bel (Below.refl _ _).drew
              have OLd := OwnY.grow OL (Below.refl _ _).drew
              have ODd := OwnY.grow OD (Below.refl _ _).drew
              have HURd := HUR.trans (Upd.of_below (Below.refl _ _).drew)
              have hzRd : y7.heap.size ≤ wr.drew.heap.size := hzR
              clear QR MM OL OD HUR
              obtain ⟨wd, hwd⟩ : ∃ y, y = wr.drew := ⟨_, rfl⟩
              rw [← hwd] at QRd MMd OLd ODd HURd hzRd ⊢
              clear hwd hzR
              refine vh_take 0 true (.pointer (some ⟨qm, 17, none⟩)) rfl (by kernel_rfl) (by kernel_rfl) (by kernel_rfl) (want_none rfl) (fun hc v hv => ex_fa rfl (ev s11 rfl) (MBox.faVector _ _)) rfl hz (by decide) trivial (fun L9_1 zz kk s148 => ?_)
              replace s2 := ku s2
              replace s4 := ku s4
              replace s8 := ku s8
              replace s9 := ku s9
              replace s10 := ku s10
              replace s11 := ku s11
              replace s16 := ku s16
              replace s17 := ku s17
              replace hz := zz
              clear kk zz
              refine vh_take 2 true (.pointer (some ⟨b, 0, none⟩)) rfl (by kernel_rfl) (by kernel_rfl) (by kernel_rfl) (want_none rfl) (fun hc v hv => ex_move rfl (ev s8 rfl)) rfl hz (by decide) trivial (fun L9_2 zz kk s150 => ?_)
              replace s2 := ku s2
              replace s4 := ku s4
              replace s8 := ku s8
              replace s9 := ku s9
              replace s10 := ku s10
              replace s11 := ku s11
              replace s16 := ku s16
              replace s17 := ku s17
              replace s148 := ku s148
              replace hz := zz
              clear kk zz
              refine vh_twoR 1 3 (by kernel_rfl) rfl rfl (want_none rfl) (ex_call rfl (by simp only [List.map_toArray, List.map_cons, List.map_nil, (ev s150 rfl), evc] <;> rfl) rfl) (qdraw_any (b + 1) b l (dsS l (sI 7 l X.s) t) wd QRd) rfl hz (by decide) ?_ tv wd (want_none rfl) (ex_ld rfl (ev s148 rfl) MMd.ldVector) rfl (by decide) trivial ?_
              · rintro e wc ⟨rfl, QRc, huc⟩
                refine ⟨_, rfl, trivial, fun L9_3 zz kk s151 => ?_⟩
                change _ = some (gw true (.agg #[.int .u64 (rD l (dsS l (sI 7 l X.s) t)).1, .int .u64 (rD l (dsS l (sI 7 l X.s) t)).2])) at s151
                replace s2 := ku s2
                replace s4 := ku s4
                replace s8 := ku s8
                replace s9 := ku s9
                replace s10 := ku s10
                replace s11 := ku s11
                replace s16 := ku s16
                replace s17 := ku s17
                replace s148 := ku s148
                replace s150 := ku s150
                replace hz := zz
                clear kk zz
                have MMc := MMd.upd huc (by omega)
                have OLc := OLd.far huc (fun x hx => by omega)
                have ODc := ODd.far huc (fun x hx => by omega)
                have HURc := HURd.trans (huc.mono (fun x _ hx => .inl hx))
                have hzc := huc.size
                clear MMd OLd ODd HURd QRd huc
                obtain ⟨wb, hwb⟩ : ∃ y, y = wc.alloc (.cells (yD.cs (rD l (dsS l (sI 7 l X.s) t))).toArray 33) := ⟨_, rfl⟩
                have hbb : Below wc.heap.size wc wb := by rw [hwb]; exact (Below.refl _ _).alloc (Nat.le_refl _) _
                have SB : SlY yD wb (some ⟨wc.heap.size, 0, none⟩) 1 1 [(rD l (dsS l (sI 7 l X.s) t))] := by rw [hwb]; exact sl_box wc (rD l (dsS l (sI 7 l X.s) t)) _
                refine vh_pair 1 4 (by kernel_rfl) rfl rfl hz tv (want_none rfl) (ex_ld rfl (ev s148 rfl) MMc.ldVector) rfl (by decide) trivial (.slice (some ⟨wc.heap.size, 0, none⟩) 1 1) wb (want_none rfl) (ex_bs rfl (by simp only [List.map_toArray, List.map_cons, List.map_nil, (ev s151 rfl)] <;> rfl) (by rw [hwb]; exact bsD _ _)) rfl (by decide) trivial ?_ ?_
                · intro L9_p1 zz kk s149x
                  replace s2 := ku s2
                  replace s4 := ku s4
                  replace s8 := ku s8
                  replace s9 := ku s9
                  replace s10 := ku s10
                  replace s11 := ku s11
                  replace s16 := ku s16
                  replace s17 := ku s17
                  replace s148 := ku s148
                  replace s150 := ku s150
                  replace s151 := ku s151
                  clear kk hz
                  have hz := zz
                  have s149 := s149x
                  clear zz s149x
                  refine vh_val 4 (.slice (some ⟨wc.heap.size, 0, none⟩) 1 1) wb rfl (by kernel_rfl) (want_none rfl) (ex_bs rfl (by simp only [List.map_toArray, List.map_cons, List.map_nil, (ev s151 rfl)] <;> rfl) (by rw [hwb]; exact bsD _ _)) rfl hz (by decide) trivial (fun L9_4 zz kk s152 => ?_)
                  replace s2 := ku s2
                  replace s4 := ku s4
                  replace s8 := ku s8
                  replace s9 := ku s9
                  replace s10 := ku s10
                  replace s11 := ku s11
                  replace s16 := ku s16
                  replace s17 := ku s17
                  replace s148 := ku s148
                  replace s150 := ku s150
                  replace s151 := ku s151
                  replace s149 := ku s149
                  replace hz := zz
                  clear kk zz
                  have hlen : ((dsL l (sI 7 l X.s) t)).length = t := by simp [dsL]
                  obtain ⟨va, wa, hra, oa, ga, na⟩ := run_appY kD wb 36 (qm + 1) _ tv (some ⟨wc.heap.size, 0, none⟩) 1 1 [(rD l (dsS l (sI 7 l X.s) t))] SB (OwnY.grow ODc hbb) (by have := hbb.size; omega) (by rw [hlen]; unfold maxLen; omega) (by rw [hlen]; show (t + 1) * 16 ≤ _; omega)
                  refine vh_val 5 va wa rfl (by kernel_rfl) (want_none rfl) (ex_app rfl (ev s149 rfl) (ev s152 rfl) hra) rfl hz (by decide) trivial (fun L9_5 zz kk s153 => ?_)
                  replace s2 := ku s2
                  replace s4 := ku s4
                  replace s8 := ku s8
                  replace s9 := ku s9
                  replace s10 := ku s10
                  replace s11 := ku s11
                  replace s16 := ku s16
                  replace s17 := ku s17
                  replace s148 := ku s148
                  replace s150 := ku s150
                  replace s151 := ku s151
                  replace s149 := ku s149
                  replace s152 := ku s152
                  replace hz := zz
                  clear kk zz
                  have uA : Upd (fun x => tv.ownBlock = some x) wc wa := (Upd.of_below hbb).trans (gupd9 ga)
                  have hqL : ∀ x, tv.ownBlock = some x → qm + 1 ≤ x := fun x hx => (ODc.blk x hx).1
                  have MMa := MMc.upd uA (fun e => by have := hqL _ e; omega)
                  have QRa := QRc.ub uA (fun x hx e => by have := hqL _ e; omega)
                  have OYa := OwnY.upd1 OLc uA (fun g hg e => apart9 ODc OLc (by decide) g e hg)
                  have HURa := HURc.trans (uA.mono (fun x _ hx => .inr (by have := hqL _ hx; omega)))
                  obtain ⟨vA, vC, hva, _⟩ := oa.form
                  subst hva
                  clear hra ga na SB hbb hwb uA MMc QRc OLc ODc HURc
                  refine vh_take 6 true (.pointer (some ⟨qm, 17, none⟩)) rfl (by kernel_rfl) (by kernel_rfl) (by kernel_rfl) (want_none rfl) (fun hc v hv => ex_fa rfl (ev s11 rfl) (MBox.faVector _ _)) rfl hz (by decide) trivial (fun L9_6 zz kk s154 => ?_)
                  replace s2 := ku s2
                  replace s4 := ku s4
                  replace s8 := ku s8
                  replace s9 := ku s9
                  replace s10 := ku s10
                  replace s11 := ku s11
                  replace s16 := ku s16
                  replace s17 := ku s17
                  replace s148 := ku s148
                  replace s150 := ku s150
                  replace s151 := ku s151
                  replace s149 := ku s149
                  replace s152 := ku s152
                  replace s153 := ku s153
                  replace hz := zz
                  clear kk zz
                  refine vh_store 7 (sets wa qm 17 [.slice vA ((dsL l (sI 7 l X.s) t) ++ [(rD l (dsS l (sI 7 l X.s) t))]).length vC]) rfl (by kernel_rfl) (want_none rfl) (ex_st rfl (ev s154 rfl) (ev s153 rfl) (stSlD vA _ vC (MMa.cell 17 _ rfl) (MMa.free 17))) rfl trivial ?_
                  have SP := MMa.splice 17 [.slice vA ((dsL l (sI 7 l X.s) t) ++ [(rD l (dsS l (sI 7 l X.s) t))]).length vC] X.m sv (.slice vA ((dsL l (sI 7 l X.s) t) ++ [(rD l (dsS l (sI 7 l X.s) t))]).length vC) (by show _ + _ ≤ 18; simp) rfl
                  obtain ⟨wz, hwz⟩ : ∃ y, y = sets wa qm 17 [.slice vA ((dsL l (sI 7 l X.s) t) ++ [(rD l (dsS l (sI 7 l X.s) t))]).length vC] := ⟨_, rfl⟩
                  rw [← hwz] at SP ⊢
                  clear hwz
                  refine vh_done (by kernel_rfl) ?_
                  have QZ := QRa.ub (S := fun x => x = qm) SP.2 (fun x hx => by omega)
                  have oz := oa.far (S := fun x => x = qm) SP.2 (fun x hx => by omega)
                  have OYz := OYa.far (S := fun x => x = qm) SP.2 (fun x hx => by omega)
                  have HUZ := HURa.trans (SP.2.mono (fun x _ hx => .inr (by omega)))
                  rw [← dsL_snoc] at oz SP
                  have MSZ : MS wz qm X.m X.L (dsL l (sI 7 l X.s) (t + 1)) := ⟨_, _, SP.1, OYz, oz⟩
                  have QZ2 : QD (b + 1) wz b l (dsS l (sI 7 l X.s) (t + 1)) := QZ
                  clear SP oz OYz QZ MMa QRa OYa HURa oa
                  clear s148 s150 s151 s149 s152 s153 s154
                  go_upto_region 43 with fail
                  refine wp_region_lit ?_
                  refine vt _ (ex_move rfl (ev s17 rfl)) hz (fun Yee zz kk s146 => ?_)
                  replace s2 := ku s2
                  replace s4 := ku s4
                  replace s8 := ku s8
                  replace s9 := ku s9
                  replace s10 := ku s10
                  replace s11 := ku s11
                  replace s16 := ku s16
                  replace s17 := ku s17
                  replace hz := zz
                  clear kk zz
                  refine vt (.int .i64 ((t + 1 : Nat) : Int)) (ex_bin rfl (ev s146 rfl) rfl (addJ t (by omega) _ _ _)) hz (fun Yef zz kk s147 => ?_)
                  replace s2 := ku s2
                  replace s4 := ku s4
                  replace s8 := ku s8
                  replace s9 := ku s9
                  replace s10 := ku s10
                  replace s11 := ku s11
                  replace s16 := ku s16
                  replace s17 := ku s17
                  replace hz := zz
                  clear kk zz s146 Yee
                  refine vt _ (ex_assign rfl (ev s147 rfl)) hz (fun Yeg zz kk s17x => ?_)
                  replace s2 := ku s2
                  replace s4 := ku s4
                  replace s8 := ku s8
                  replace s9 := ku s9
                  replace s10 := ku s10
                  replace s11 := ku s11
                  replace s16 := ku s16
                  clear kk hz s147 s17
                  have hz := zz
                  have s17 := s17x
                  clear zz s17x Yef
                  refine wpList_nil ?_
                  exact ⟨_, rfl, by omega, hz, s2, s4, s8, s9, s10, s11, s16, s17, QZ2, MSZ, HUZ⟩
                · intro L9_p2 zz kk s152x
                  replace s2 := ku s2
                  replace s4 := ku s4
                  replace s8 := ku s8
                  replace s9 := ku s9
                  replace s10 := ku s10
                  replace s11 := ku s11
                  replace s16 := ku s16
                  replace s17 := ku s17
                  replace s148 := ku s148
                  replace s150 := ku s150
                  replace s151 := ku s151
                  clear kk hz
                  have hz := zz
                  have s152 := s152x
                  clear zz s152x
                  refine vh_val 1 tv wb rfl (by kernel_rfl) (want_none rfl) (ex_ld rfl (ev s148 rfl) (MMc.bel hbb).ldVector) rfl hz (by decide) trivial (fun L9_7 zz kk s149 => ?_)
                  replace s2 := ku s2
                  replace s4 := ku s4
                  replace s8 := ku s8
                  replace s9 := ku s9
                  replace s10 := ku s10
                  replace s11 := ku s11
                  replace s16 := ku s16
                  replace s17 := ku s17
                  replace s148 := ku s148
                  replace s150 := ku s150
                  replace s151 := ku s151
                  replace s152 := ku s152
                  replace hz := zz
                  clear kk zz
                  have hlen : ((dsL l (sI 7 l X.s) t)).length = t := by simp [dsL]
                  obtain ⟨va, wa, hra, oa, ga, na⟩ := run_appY kD wb 36 (qm + 1) _ tv (some ⟨wc.heap.size, 0, none⟩) 1 1 [(rD l (dsS l (sI 7 l X.s) t))] SB (OwnY.grow ODc hbb) (by have := hbb.size; omega) (by rw [hlen]; unfold maxLen; omega) (by rw [hlen]; show (t + 1) * 16 ≤ _; omega)
                  refine vh_val 5 va wa rfl (by kernel_rfl) (want_none rfl) (ex_app rfl (ev s149 rfl) (ev s152 rfl) hra) rfl hz (by decide) trivial (fun L9_8 zz kk s153 => ?_)
                  replace s2 := ku s2
                  replace s4 := ku s4
                  replace s8 := ku s8
                  replace s9 := ku s9
                  replace s10 := ku s10
                  replace s11 := ku s11
                  replace s16 := ku s16
                  replace s17 := ku s17
                  replace s148 := ku s148
                  replace s150 := ku s150
                  replace s151 := ku s151
                  replace s152 := ku s152
                  replace s149 := ku s149
                  replace hz := zz
                  clear kk zz
                  have uA : Upd (fun x => tv.ownBlock = some x) wc wa := (Upd.of_below hbb).trans (gupd9 ga)
                  have hqL : ∀ x, tv.ownBlock = some x → qm + 1 ≤ x := fun x hx => (ODc.blk x hx).1
                  have MMa := MMc.upd uA (fun e => by have := hqL _ e; omega)
                  have QRa := QRc.ub uA (fun x hx e => by have := hqL _ e; omega)
                  have OYa := OwnY.upd1 OLc uA (fun g hg e => apart9 ODc OLc (by decide) g e hg)
                  have HURa := HURc.trans (uA.mono (fun x _ hx => .inr (by have := hqL _ hx; omega)))
                  obtain ⟨vA, vC, hva, _⟩ := oa.form
                  subst hva
                  clear hra ga na SB hbb hwb uA MMc QRc OLc ODc HURc
                  refine vh_take 6 true (.pointer (some ⟨qm, 17, none⟩)) rfl (by kernel_rfl) (by kernel_rfl) (by kernel_rfl) (want_none rfl) (fun hc v hv => ex_fa rfl (ev s11 rfl) (MBox.faVector _ _)) rfl hz (by decide) trivial (fun L9_9 zz kk s154 => ?_)
                  replace s2 := ku s2
                  replace s4 := ku s4
                  replace s8 := ku s8
                  replace s9 := ku s9
                  replace s10 := ku s10
                  replace s11 := ku s11
                  replace s16 := ku s16
                  replace s17 := ku s17
                  replace s148 := ku s148
                  replace s150 := ku s150
                  replace s151 := ku s151
                  replace s152 := ku s152
                  replace s149 := ku s149
                  replace s153 := ku s153
                  replace hz := zz
                  clear kk zz
                  refine vh_store 7 (sets wa qm 17 [.slice vA ((dsL l (sI 7 l X.s) t) ++ [(rD l (dsS l (sI 7 l X.s) t))]).length vC]) rfl (by kernel_rfl) (want_none rfl) (ex_st rfl (ev s154 rfl) (ev s153 rfl) (stSlD vA _ vC (MMa.cell 17 _ rfl) (MMa.free 17))) rfl trivial ?_
                  have SP := MMa.splice 17 [.slice vA ((dsL l (sI 7 l X.s) t) ++ [(rD l (dsS l (sI 7 l X.s) t))]).length vC] X.m sv (.slice vA ((dsL l (sI 7 l X.s) t) ++ [(rD l (dsS l (sI 7 l X.s) t))]).length vC) (by show _ + _ ≤ 18; simp) rfl
                  obtain ⟨wz, hwz⟩ : ∃ y, y = sets wa qm 17 [.slice vA ((dsL l (sI 7 l X.s) t) ++ [(rD l (dsS l (sI 7 l X.s) t))]).length vC] := ⟨_, rfl⟩
                  rw [← hwz] at SP ⊢
                  clear hwz
                  refine vh_done (by kernel_rfl) ?_
                  have QZ := QRa.ub (S := fun x => x = qm) SP.2 (fun x hx => by omega)
                  have oz := oa.far (S := fun x => x = qm) SP.2 (fun x hx => by omega)
                  have OYz := OYa.far (S := fun x => x = qm) SP.2 (fun x hx => by omega)
                  have HUZ := HURa.trans (SP.2.mono (fun x _ hx => .inr (by omega)))
                  rw [← dsL_snoc] at oz SP
                  have MSZ : MS wz qm X.m X.L (dsL l (sI 7 l X.s) (t + 1)) := ⟨_, _, SP.1, OYz, oz⟩
                  have QZ2 : QD (b + 1) wz b l (dsS l (sI 7 l X.s) (t + 1)) := QZ
                  clear SP oz OYz QZ MMa QRa OYa HURa oa
                  clear s148 s150 s151 s152 s149 s153 s154
                  go_upto_region 43 with fail
                  refine wp_region_lit ?_
                  refine vt _ (ex_move rfl (ev s17 rfl)) hz (fun Yeh zz kk s146 => ?_)
                  replace s2 := ku s2
                  replace s4 := ku s4
                  replace s8 := ku s8
                  replace s9 := ku s9
                  replace s10 := ku s10
                  replace s11 := ku s11
                  replace s16 := ku s16
                  replace s17 := ku s17
                  replace hz := zz
                  clear kk zz
                  refine vt (.int .i64 ((t + 1 : Nat) : Int)) (ex_bin rfl (ev s146 rfl) rfl (addJ t (by omega) _ _ _)) hz (fun Yei zz kk s147 => ?_)
                  replace s2 := ku s2
                  replace s4 := ku s4
                  replace s8 := ku s8
                  replace s9 := ku s9
                  replace s10 := ku s10
                  replace s11 := ku s11
                  replace s16 := ku s16
                  replace s17 := ku s17
                  replace hz := zz
                  clear kk zz s146 Yeh
                  refine vt _ (ex_assign rfl (ev s147 rfl)) hz (fun Yej zz kk s17x => ?_)
                  replace s2 := ku s2
                  replace s4 := ku s4
                  replace s8 := ku s8
                  replace s9 := ku s9
                  replace s10 := ku s10
                  replace s11 := ku s11
                  replace s16 := ku s16
                  clear kk hz s147 s17
                  have hz := zz
                  have s17 := s17x
                  clear zz s17x Yei
                  refine wpList_nil ?_
                  exact ⟨_, rfl, by omega, hz, s2, s4, s8, s9, s10, s11, s16, s17, QZ2, MSZ, HUZ⟩
              · intro L9_10 zz kk s149x
                replace s2 := ku s2
                replace s4 := ku s4
                replace s8 := ku s8
                replace s9 := ku s9
                replace s10 := ku s10
                replace s11 := ku s11
                replace s16 := ku s16
                replace s17 := ku s17
                replace s148 := ku s148
                replace s150 := ku s150
                clear kk hz
                have hz := zz
                have s149 := s149x
                clear zz s149x
                refine vh_call 3 rfl (by kernel_rfl) (want_none rfl) (ex_call rfl (by simp only [List.map_toArray, List.map_cons, List.map_nil, (ev s150 rfl), evc] <;> rfl) rfl) (qdraw_any (b + 1) b l (dsS l (sI 7 l X.s) t) wd QRd) rfl hz (by decide) ?_
                rintro e wc ⟨rfl, QRc, huc⟩
                refine ⟨_, rfl, trivial, fun L9_11 zz kk s151 => ?_⟩
                change _ = some (gw true (.agg #[.int .u64 (rD l (dsS l (sI 7 l X.s) t)).1, .int .u64 (rD l (dsS l (sI 7 l X.s) t)).2])) at s151
                replace s2 := ku s2
                replace s4 := ku s4
                replace s8 := ku s8
                replace s9 := ku s9
                replace s10 := ku s10
                replace s11 := ku s11
                replace s16 := ku s16
                replace s17 := ku s17
                replace s148 := ku s148
                replace s150 := ku s150
                replace s149 := ku s149
                replace hz := zz
                clear kk zz
                have MMc := MMd.upd huc (by omega)
                have OLc := OLd.far huc (fun x hx => by omega)
                have ODc := ODd.far huc (fun x hx => by omega)
                have HURc := HURd.trans (huc.mono (fun x _ hx => .inl hx))
                have hzc := huc.size
                clear MMd OLd ODd HURd QRd huc
                obtain ⟨wb, hwb⟩ : ∃ y, y = wc.alloc (.cells (yD.cs (rD l (dsS l (sI 7 l X.s) t))).toArray 33) := ⟨_, rfl⟩
                have hbb : Below wc.heap.size wc wb := by rw [hwb]; exact (Below.refl _ _).alloc (Nat.le_refl _) _
                have SB : SlY yD wb (some ⟨wc.heap.size, 0, none⟩) 1 1 [(rD l (dsS l (sI 7 l X.s) t))] := by rw [hwb]; exact sl_box wc (rD l (dsS l (sI 7 l X.s) t)) _
                refine vh_val 4 (.slice (some ⟨wc.heap.size, 0, none⟩) 1 1) wb rfl (by kernel_rfl) (want_none rfl) (ex_bs rfl (by simp only [List.map_toArray, List.map_cons, List.map_nil, (ev s151 rfl)] <;> rfl) (by rw [hwb]; exact bsD _ _)) rfl hz (by decide) trivial (fun L9_12 zz kk s152 => ?_)
                replace s2 := ku s2
                replace s4 := ku s4
                replace s8 := ku s8
                replace s9 := ku s9
                replace s10 := ku s10
                replace s11 := ku s11
                replace s16 := ku s16
                replace s17 := ku s17
                replace s148 := ku s148
                replace s150 := ku s150
                replace s149 := ku s149
                replace s151 := ku s151
                replace hz := zz
                clear kk zz
                have hlen : ((dsL l (sI 7 l X.s) t)).length = t := by simp [dsL]
                obtain ⟨va, wa, hra, oa, ga, na⟩ := run_appY kD wb 36 (qm + 1) _ tv (some ⟨wc.heap.size, 0, none⟩) 1 1 [(rD l (dsS l (sI 7 l X.s) t))] SB (OwnY.grow ODc hbb) (by have := hbb.size; omega) (by rw [hlen]; unfold maxLen; omega) (by rw [hlen]; show (t + 1) * 16 ≤ _; omega)
                refine vh_val 5 va wa rfl (by kernel_rfl) (want_none rfl) (ex_app rfl (ev s149 rfl) (ev s152 rfl) hra) rfl hz (by decide) trivial (fun L9_13 zz kk s153 => ?_)
                replace s2 := ku s2
                replace s4 := ku s4
                replace s8 := ku s8
                replace s9 := ku s9
                replace s10 := ku s10
                replace s11 := ku s11
                replace s16 := ku s16
                replace s17 := ku s17
                replace s148 := ku s148
                replace s150 := ku s150
                replace s149 := ku s149
                replace s151 := ku s151
                replace s152 := ku s152
                replace hz := zz
                clear kk zz
                have uA : Upd (fun x => tv.ownBlock = some x) wc wa := (Upd.of_below hbb).trans (gupd9 ga)
                have hqL : ∀ x, tv.ownBlock = some x → qm + 1 ≤ x := fun x hx => (ODc.blk x hx).1
                have MMa := MMc.upd uA (fun e => by have := hqL _ e; omega)
                have QRa := QRc.ub uA (fun x hx e => by have := hqL _ e; omega)
                have OYa := OwnY.upd1 OLc uA (fun g hg e => apart9 ODc OLc (by decide) g e hg)
                have HURa := HURc.trans (uA.mono (fun x _ hx => .inr (by have := hqL _ hx; omega)))
                obtain ⟨vA, vC, hva, _⟩ := oa.form
                subst hva
                clear hra ga na SB hbb hwb uA MMc QRc OLc ODc HURc
                refine vh_take 6 true (.pointer (some ⟨qm, 17, none⟩)) rfl (by kernel_rfl) (by kernel_rfl) (by kernel_rfl) (want_none rfl) (fun hc v hv => ex_fa rfl (ev s11 rfl) (MBox.faVector _ _)) rfl hz (by decide) trivial (fun L9_14 zz kk s154 => ?_)
                replace s2 := ku s2
                replace s4 := ku s4
                replace s8 := ku s8
                replace s9 := ku s9
                replace s10 := ku s10
                replace s11 := ku s11
                replace s16 := ku s16
                replace s17 := ku s17
                replace s148 := ku s148
                replace s150 := ku s150
                replace s149 := ku s149
                replace s151 := ku s151
                replace s152 := ku s152
                replace s153 := ku s153
                replace hz := zz
                clear kk zz
                refine vh_store 7 (sets wa qm 17 [.slice vA ((dsL l (sI 7 l X.s) t) ++ [(rD l (dsS l (sI 7 l X.s) t))]).length vC]) rfl (by kernel_rfl) (want_none rfl) (ex_st rfl (ev s154 rfl) (ev s153 rfl) (stSlD vA _ vC (MMa.cell 17 _ rfl) (MMa.free 17))) rfl trivial ?_
                have SP := MMa.splice 17 [.slice vA ((dsL l (sI 7 l X.s) t) ++ [(rD l (dsS l (sI 7 l X.s) t))]).length vC] X.m sv (.slice vA ((dsL l (sI 7 l X.s) t) ++ [(rD l (dsS l (sI 7 l X.s) t))]).length vC) (by show _ + _ ≤ 18; simp) rfl
                obtain ⟨wz, hwz⟩ : ∃ y, y = sets wa qm 17 [.slice vA ((dsL l (sI 7 l X.s) t) ++ [(rD l (dsS l (sI 7 l X.s) t))]).length vC] := ⟨_, rfl⟩
                rw [← hwz] at SP ⊢
                clear hwz
                refine vh_done (by kernel_rfl) ?_
                have QZ := QRa.ub (S := fun x => x = qm) SP.2 (fun x hx => by omega)
                have oz := oa.far (S := fun x => x = qm) SP.2 (fun x hx => by omega)
                have OYz := OYa.far (S := fun x => x = qm) SP.2 (fun x hx => by omega)
                have HUZ := HURa.trans (SP.2.mono (fun x _ hx => .inr (by omega)))
                rw [← dsL_snoc] at oz SP
                have MSZ : MS wz qm X.m X.L (dsL l (sI 7 l X.s) (t + 1)) := ⟨_, _, SP.1, OYz, oz⟩
                have QZ2 : QD (b + 1) wz b l (dsS l (sI 7 l X.s) (t + 1)) := QZ
                clear SP oz OYz QZ MMa QRa OYa HURa oa
                clear s148 s150 s149 s151 s152 s153 s154
                go_upto_region 43 with fail
                refine wp_region_lit ?_
                refine vt _ (ex_move rfl (ev s17 rfl)) hz (fun Yek zz kk s146 => ?_)
                replace s2 := ku s2
                replace s4 := ku s4
                replace s8 := ku s8
                replace s9 := ku s9
                replace s10 := ku s10
                replace s11 := ku s11
                replace s16 := ku s16
                replace s17 := ku s17
                replace hz := zz
                clear kk zz
                refine vt (.int .i64 ((t + 1 : Nat) : Int)) (ex_bin rfl (ev s146 rfl) rfl (addJ t (by omega) _ _ _)) hz (fun Yel zz kk s147 => ?_)
                replace s2 := ku s2
                replace s4 := ku s4
                replace s8 := ku s8
                replace s9 := ku s9
                replace s10 := ku s10
                replace s11 := ku s11
                replace s16 := ku s16
                replace s17 := ku s17
                replace hz := zz
                clear kk zz s146 Yek
                refine vt _ (ex_assign rfl (ev s147 rfl)) hz (fun Yem zz kk s17x => ?_)
                replace s2 := ku s2
                replace s4 := ku s4
                replace s8 := ku s8
                replace s9 := ku s9
                replace s10 := ku s10
                replace s11 := ku s11
                replace s16 := ku s16
                clear kk hz s147 s17
                have hz := zz
                have s17 := s17x
                clear zz s17x Yel
                refine wpList_nil ?_
                exact ⟨_, rfl, by omega, hz, s2, s4, s8, s9, s10, s11, s16, s17, QZ2, MSZ, HUZ⟩
            refine wp_cond_false ((ev s145 rfl).trans (congrArg Value.bool e8)) ?_
            have htn : t = (rI 7 l X.s) := by have := of_decide_eq_false e8; omega
            subst htn
            clear s145 e8
            go_wp2
            exact ⟨_, rfl, hz, s2, s4, s8, s9, s10, s11, by rw [hX]; exact ⟨QR, ⟨sv, tv, MM, OL, OD⟩, HUR⟩⟩
          · clear hz s2 s4 s8 s9 s10 s11 s140 QR MSR HUR
            intro T9c w9c hJ
            obtain ⟨hz, s2, s4, s8, s9, s10, s11, HI⟩ := hJ
            obtain ⟨QR, MSR, HUR⟩ := HI.out
            clear HI
            obtain ⟨sv, tv, MM, OL, OD⟩ := MSR
            have hzR := HUR.size
            replace Cc := Cc.upd9 HUR (by omega)
            replace M0 := M0.upd HUR (by omega)
            replace hB := hB.trans (HUR.below hB.size (fun x hx => by omega))
            clear HUR
            go_upto_region 45 with fail
            refine wp_region_lit ?_
            refine vt _ (ex_move rfl (ev s8 rfl)) hz (fun Yen zz kk s155 => ?_)
            replace s2 := ku s2
            replace s4 := ku s4
            replace s11 := ku s11
            replace hz := zz
            clear kk zz s8 s9 s10
            refine vcallP (want_none rfl) (ex_call rfl (by simp only [List.map_toArray, List.map_cons, List.map_nil, (ev s155 rfl), evc] <;> rfl) rfl) (qd_End (b + 1) b l (rCols l k x0 10).s _ QR) rfl hz (by decide) ?_
            rintro e t1 ⟨rfl, hb⟩
            refine ⟨_, rfl, fun Yeo zz kk s156 => ?_⟩
            replace Cc := Cc.bel hb
            replace M0 := M0.bel hb
            replace hB := hB.trans (hb.mono hB.size)
            have MM2 := MM.bel hb
            have OL2 := OwnY.grow OL hb
            have OD2 := OwnY.grow OD hb
            have hzt := hb.size
            clear MM OL OD QR hb
            replace s2 := ku s2
            replace s4 := ku s4
            replace s11 := ku s11
            replace hz := zz
            clear kk zz s155 Yen
            refine vt _ (ex_assign rfl (ev s156 rfl)) hz (fun Yep zz kk s7 => ?_)
            replace s2 := ku s2
            replace s4 := ku s4
            replace s11 := ku s11
            replace hz := zz
            clear kk zz s156 Yeo
            refine wpList_nil ?_
            go_upto_region 46 with fail
            refine wp_region_lit ?_
            refine vt _ (ex_move rfl (ev s7 rfl)) hz (fun Yeq zz kk s157 => ?_)
            replace s2 := ku s2
            replace s4 := ku s4
            replace s7 := ku s7
            replace s11 := ku s11
            replace hz := zz
            clear kk zz
            refine vt (.bool (!decide ((Wi.endErr l.length (rCols l k x0 10).s.1 (rCols l k x0 10).s.2) = 0))) (ex_bin rfl (ev s157 rfl) rfl (neqC _ _ _ _ _)) hz (fun Yer zz kk s158 => ?_)
            replace s2 := ku s2
            replace s4 := ku s4
            replace s7 := ku s7
            replace s11 := ku s11
            replace hz := zz
            clear kk zz s157 Yeq
            refine wpList_nil ?_
            go_upto_region 48 with fail
            cases hee : !decide ((Wi.endErr l.length (rCols l k x0 10).s.1 (rCols l k x0 10).s.2) = 0)
            rotate_left
            · rw [hee] at s158
              refine wp_cond_true ((ev s158 rfl).trans rfl) ?_
              clear s158
              have hne : ¬ (Wi.endErr l.length (rCols l k x0 10).s.1 (rCols l k x0 10).s.2) = 0 := by simpa using hee
              have VV : dcM c f = (⟨zG, [], [], (0, 0)⟩, (Wi.endErr l.length (rCols l k x0 10).s.1 (rCols l k x0 10).s.2)) := by
                unfold dcM
                rw [if_neg (by simp [hcf]), if_neg (by simp [hop0]), ← hl, hR, if_pos hne]
              go_upto_region 47 with fail
              refine wp_region_lit ?_
              refine vt (zG.val nilS nilS) (ex_build rfl (bdM0 _)) hz (fun Yes zz kk s159 => ?_)
              replace s4 := ku s4
              replace s7 := ku s7
              replace hz := zz
              clear kk zz s2 s11
              refine vt _ (ex_move rfl (ev s7 rfl)) hz (fun Yet zz kk s160 => ?_)
              replace s4 := ku s4
              replace s159 := ku s159
              replace hz := zz
              clear kk zz s7 Yes
              refine vs (sets t1 (w.heap.size + 1) 0 (zG.cs nilS nilS)) (want_none rfl) (ex_st rfl (ev s4 rfl) (ev s159 rfl) (stM M0 zG nilS nilS rfl rfl)) rfl ?_
              have SPz := M0.putU zG nilS nilS
              obtain ⟨v1, hv1⟩ : ∃ y, y = sets t1 (w.heap.size + 1) 0 (zG.cs nilS nilS) := ⟨_, rfl⟩
              rw [← hv1] at SPz ⊢
              clear hv1
              refine vt _ (ex_assign rfl (ev s160 rfl)) hz (fun Yeu zz kk s5 => ?_)
              replace s4 := ku s4
              replace hz := zz
              clear kk zz s159 s160 Yet
              refine wpList_nil ?_
              have hfin : Below w.heap.size w v1 := hB.trans (SPz.2.below hB.size (by omega))
              go_wp2
              refine bodyPost_msg rfl s4 s5 SPz.1 ?_
              rw [VV]
              exact ⟨_, _, rfl, OwnY.nil _ _ _, OwnY.nil _ _ _, hfin⟩
            rw [hee] at s158
            refine wp_cond_false ((ev s158 rfl).trans rfl) ?_
            have hee0 : (Wi.endErr l.length (rCols l k x0 10).s.1 (rCols l k x0 10).s.2) = 0 := by simpa using hee
            clear s158 hee
            clear s7
            obtain ⟨sa, sc, hsv, _⟩ := OL2.form
            obtain ⟨ta, tc, htv, _⟩ := OD2.form
            subst hsv htv
            have hfits := rCols_fits l k x0 ⟨by rw [hx0L]; exact (fun e he => by cases he), by rw [hx0]; exact zG_fits⟩ 10
            go_upto_region 48 with fail
            refine wp_region_lit ?_
            refine vt (.agg #[.int .i64 c.f, .int .i64 c.r, .int .i64 c.p, .bool c.u]) (ex_ld rfl (ev s2 rfl) Cc.ldAll) hz (fun Yev zz kk s161 => ?_)
            replace s4 := ku s4
            replace s11 := ku s11
            replace hz := zz
            clear kk zz s2
            refine vt ((rCols l k x0 10).m.val (.slice sa (rCols l k x0 10).L.length sc) (.slice ta (rCols l k x0 10).D.length tc)) (ex_ld rfl (ev s11 rfl) MM2.ldAll) hz (fun Yew zz kk s162 => ?_)
            replace s4 := ku s4
            replace s11 := ku s11
            replace s161 := ku s161
            replace hz := zz
            clear kk zz Yev
            refine vcallP (want_none rfl) (ex_call rfl (by simp only [List.map_toArray, List.map_cons, List.map_nil, (ev s161 rfl), (ev s162 rfl), evc] <;> rfl) rfl) (refcheck7 c (rCols l k x0 10).m sa ta sc tc (rCols l k x0 10).L (rCols l k x0 10).D t1 (OwnY.sl' kE OL2) hfits.1 (OwnY.sl' kD OD2) hfits.2) rfl hz (by decide) ?_
            rintro e t2 ⟨rfl, hb⟩
            refine ⟨_, rfl, fun Yex zz kk s163 => ?_⟩
            replace Cc := Cc.bel hb
            replace M0 := M0.bel hb
            replace hB := hB.trans (hb.mono hB.size)
            have MM3 := MM2.bel hb
            have OL3 := OwnY.grow OL2 hb
            have OD3 := OwnY.grow OD2 hb
            clear MM2 OL2 OD2 hb
            replace s4 := ku s4
            replace s11 := ku s11
            replace hz := zz
            clear kk zz s161 s162 Yew
            refine vt _ (ex_assign rfl (ev s163 rfl)) hz (fun Yey zz kk s7 => ?_)
            replace s4 := ku s4
            replace s11 := ku s11
            replace hz := zz
            clear kk zz s163 Yex
            refine wpList_nil ?_
            go_upto_region 49 with fail
            refine wp_region_lit ?_
            refine vt _ (ex_move rfl (ev s7 rfl)) hz (fun Yez zz kk s164 => ?_)
            replace s4 := ku s4
            replace s7 := ku s7
            replace s11 := ku s11
            replace hz := zz
            clear kk zz
            refine vt (.bool (!decide ((ckM c (rCols l k x0 10).m (rCols l k x0 10).L (rCols l k x0 10).D) = 0))) (ex_bin rfl (ev s164 rfl) rfl (neqC _ _ _ _ _)) hz (fun Ye0 zz kk s165 => ?_)
            replace s4 := ku s4
            replace s7 := ku s7
            replace s11 := ku s11
            replace hz := zz
            clear kk zz s164 Yez
            refine wpList_nil ?_
            go_upto_region 51 with fail
            cases hck : !decide ((ckM c (rCols l k x0 10).m (rCols l k x0 10).L (rCols l k x0 10).D) = 0)
            rotate_left
            · rw [hck] at s165
              refine wp_cond_true ((ev s165 rfl).trans rfl) ?_
              clear s165
              have hne : ¬ (ckM c (rCols l k x0 10).m (rCols l k x0 10).L (rCols l k x0 10).D) = 0 := by simpa using hck
              have VV : dcM c f = (⟨zG, [], [], (0, 0)⟩, (ckM c (rCols l k x0 10).m (rCols l k x0 10).L (rCols l k x0 10).D)) := by
                unfold dcM
                rw [if_neg (by simp [hcf]), if_neg (by simp [hop0]), ← hl, hR, if_neg (by simp [hee0]), if_pos hne]
              go_upto_region 50 with fail
              refine wp_region_lit ?_
              refine vt (zG.val nilS nilS) (ex_build rfl (bdM0 _)) hz (fun Ye1 zz kk s166 => ?_)
              replace s4 := ku s4
              replace s7 := ku s7
              replace hz := zz
              clear kk zz s11
              refine vt _ (ex_move rfl (ev s7 rfl)) hz (fun Ye2 zz kk s167 => ?_)
              replace s4 := ku s4
              replace s166 := ku s166
              replace hz := zz
              clear kk zz s7 Ye1
              refine vs (sets t2 (w.heap.size + 1) 0 (zG.cs nilS nilS)) (want_none rfl) (ex_st rfl (ev s4 rfl) (ev s166 rfl) (stM M0 zG nilS nilS rfl rfl)) rfl ?_
              have SPz := M0.putU zG nilS nilS
              obtain ⟨v1, hv1⟩ : ∃ y, y = sets t2 (w.heap.size + 1) 0 (zG.cs nilS nilS) := ⟨_, rfl⟩
              rw [← hv1] at SPz ⊢
              clear hv1
              refine vt _ (ex_assign rfl (ev s167 rfl)) hz (fun Ye3 zz kk s5 => ?_)
              replace s4 := ku s4
              replace hz := zz
              clear kk zz s166 s167 Ye2
              refine wpList_nil ?_
              have hfin : Below w.heap.size w v1 := hB.trans (SPz.2.below hB.size (by omega))
              go_wp2
              refine bodyPost_msg rfl s4 s5 SPz.1 ?_
              rw [VV]
              exact ⟨_, _, rfl, OwnY.nil _ _ _, OwnY.nil _ _ _, hfin⟩
            rw [hck] at s165
            refine wp_cond_false ((ev s165 rfl).trans rfl) ?_
            have hck0 : (ckM c (rCols l k x0 10).m (rCols l k x0 10).L (rCols l k x0 10).D) = 0 := by simpa using hck
            clear s165 hck s7
            go_upto_region 51 with fail
            refine wp_region_lit ?_
            refine vt ((rCols l k x0 10).m.val (.slice sa (rCols l k x0 10).L.length sc) (.slice ta (rCols l k x0 10).D.length tc)) (ex_ld rfl (ev s11 rfl) MM3.ldAll) hz (fun Ye4 zz kk s168 => ?_)
            replace s4 := ku s4
            replace hz := zz
            clear kk zz s11
            refine vs (sets t2 (w.heap.size + 1) 0 ((rCols l k x0 10).m.cs (.slice sa (rCols l k x0 10).L.length sc) (.slice ta (rCols l k x0 10).D.length tc))) (want_none rfl) (ex_st rfl (ev s4 rfl) (ev s168 rfl) (stM M0 (rCols l k x0 10).m (.slice sa (rCols l k x0 10).L.length sc) (.slice ta (rCols l k x0 10).D.length tc) rfl rfl)) rfl ?_
            have SPz := M0.putU (rCols l k x0 10).m (.slice sa (rCols l k x0 10).L.length sc) (.slice ta (rCols l k x0 10).D.length tc)
            obtain ⟨v1, hv1⟩ : ∃ y, y = sets t2 (w.heap.size + 1) 0 ((rCols l k x0 10).m.cs (.slice sa (rCols l k x0 10).L.length sc) (.slice ta (rCols l k x0 10).D.length tc)) := ⟨_, rfl⟩
            rw [← hv1] at SPz ⊢
            clear hv1
            refine vt (.int .i64 0) (ex_assign rfl rfl) hz (fun Ye5 zz kk s5 => ?_)
            replace s4 := ku s4
            replace hz := zz
            clear kk zz s168 Ye4
            refine wpList_nil ?_
            have VV : dcM c f = ((rCols l k x0 10), 0) := by
              unfold dcM
              rw [if_neg (by simp [hcf]), if_neg (by simp [hop0]), ← hl, hR, if_neg (by simp [hee0]), if_neg (by simp [hck0])]
            have hfin : Below w.heap.size w v1 := hB.trans (SPz.2.below hB.size (by omega))
            have OL4 := OL3.far (S := fun x => x = w.heap.size + 1) SPz.2 (fun x hx => by omega)
            have OD4 := OD3.far (S := fun x => x = w.heap.size + 1) SPz.2 (fun x hx => by omega)
            go_wp2
            refine bodyPost_msg rfl s4 s5 SPz.1 ?_
            rw [VV]
            exact ⟨_, _, rfl, OL4.low (by omega), OD4.low (by omega), hfin⟩
def gvO : Obj := .cells #[.slice none 0 0, .slice none 0 0, .slice none 0 0, .slice none 0 0, .slice none 0 0, .slice none 0 0, .slice none 0 0, .slice none 0 0, .slice none 0 0, .slice none 0 0] 45
theorem alGv (w : World) : (Instr.alloc 45 true (.tuple #[])).run Tryz.prog w = .ok (.pointer (some ⟨w.heap.size, 0, none⟩)) (w.alloc gvO) := by
  go_simp
  first | done | rfl
end Go.Proofs.YtibedokegignhaaGreatDoor
namespace Go.Proofs.YtibedokegignhaaGreatDoor
open Go.RowKit Go.Maps Go.WideShapes Go.ChangeShapes
open Classical
theorem gTab : Tryz.prog.globalNamed "amnesia/message.table" = some 0 := by kernel_rfl
theorem gTabT : (Tryz.prog.globals[0]?).map (·.type) = some 84 := by kernel_rfl
theorem cellsRow : Tryz.prog.cellsOf 83 = 10 := by kernel_rfl
theorem cellsRule : Tryz.prog.cellsOf 82 = 1 := by kernel_rfl
theorem undTab : Tryz.prog.underlying 84 = some (.array 15 83) := by kernel_rfl
theorem undRow : Tryz.prog.underlying 83 = some (.array 10 82) := by kernel_rfl
theorem undRule : Tryz.prog.underlying 82 = some (.int .u8) := by kernel_rfl
theorem tab_of_laid7 {W : World} (h : laidMetH Tryz.prog [("amnesia/message.table", Rows.laid_amnesia_message_table)] W) : Tab W := by
  rw [MakeChecks.laidMetH_plain _ _ _ (by kernel_rfl)] at h
  obtain ⟨ps, ⟨g', t', cs, fuel, p, q, hg', ht', hvar, hd, _, _⟩, _⟩ := h
  obtain rfl := Option.some.inj (gTab.symm.trans hg')
  obtain rfl := Option.some.inj (gTabT.symm.trans ht')
  obtain ⟨xs, m, _, hx, hl, hxl, hall⟩ := DataW.trod_array undTab hd
  have e : (Rows.laid_amnesia_message_table : DataW Unit) = .agg ((List.range 15).map fun k => Lib.tabData .u8 ((List.range 10).map fun j => (tabA k j : Int))) := by kernel_rfl
  have hxs : xs.map (·.1) = (List.range 15).map fun k => (Lib.tabData .u8 ((List.range 10).map fun j => (tabA k j : Int)) : DataW Unit) := by
    have h1 := congrArg Prod.fst hx
    rw [e] at h1
    exact (DataW.agg.inj h1).symm
  have row : ∀ k, k < 15 → (cs.toList.drop (k * 10)).take 10 = ((List.range 10).map fun j => (tabA k j : Int)).map fun z => Value.int .u8 z := by
    intro k hk
    have h1 := hall k hk
    rw [cellsRow] at h1
    obtain ⟨x, hx⟩ : ∃ x, xs[k]? = some x := ⟨_, List.getElem?_eq_getElem (by omega)⟩
    rw [hx] at h1
    have h2 : x.1 = (Lib.tabData .u8 ((List.range 10).map fun j => (tabA k j : Int)) : DataW Unit) := by
      have h3 := congrArg (fun l => l[k]?) hxs
      simp only [List.getElem?_map, hx, Option.map_some, List.getElem?_range hk] at h3
      exact Option.some.inj h3
    obtain ⟨d, pp⟩ := x
    subst h2
    exact Lib.cells_of_tab undRow undRule cellsRule cellsRow h1
  have cell : ∀ k j, k < 15 → j < 10 → W.cell? ⟨0, k * 10 + j, none⟩ = some (.int .u8 (tabA k j : Int)) := by
    intro k j hk hj
    have h1 := World.var?_cell gTab hvar (k * 10 + j)
    rw [h1]
    have h2 := congrArg (fun l => l[j]?) (row k hk)
    simp only [List.getElem?_take_of_lt hj, List.getElem?_drop, List.getElem?_map, List.getElem?_range hj, Option.map_some, Array.getElem?_toList] at h2
    exact h2
  refine ⟨?_, cell⟩
  have h0 := cell 0 0 (by decide) (by decide)
  apply Nat.pos_of_ne_zero
  intro hz
  have : W.heap[0]? = none := Array.getElem?_eq_none (by omega)
  simp [World.cell?, this] at h0
theorem cfCells7 : Tryz.prog.cellsOf 23 = 4 := by kernel_rfl
theorem boolCells7 : Tryz.prog.cellsOf 4 = 1 := by kernel_rfl
theorem open_cfg {H : Type} {enc : TypeId × Value → H} {W : World} {base : Nat} {v : Value} {d : DataW H} {p : List MemPlace} (hv : Value.okWide Tryz.prog W .any base 23 v) (h : DataW.Trod enc Tryz.prog W 0 (fun _ => true) true 23 v d p) :
    ∃ x : Cf, v = x.val ∧ True := by
  obtain ⟨cs, rfl, hsz⟩ := okWide_struct Tryz.underlying23 hv
  obtain ⟨fuel, hf⟩ := h
  obtain ⟨xs, k, hk, hxy, hlen, hxl, hf⟩ := DataW.trod_struct Tryz.underlying23 hf
  rw [cfCells7] at hlen
  have hxl : xs.length = 4 := hxl
  simp only [Value.cells] at hlen hf
  obtain ⟨l⟩ := cs
  match xs, hxl, l, hlen with
  | [y0, y1, y2, y3], _, [v0, v1, v2, v3], _ =>
    have g0 := hf 0 _ rfl
    have g1 := hf 1 _ rfl
    have g2 := hf 2 _ rfl
    have g3 := hf 3 _ rfl
    simp [intCells, boolCells7] at g0 g1 g2 g3
    obtain ⟨A, hA, _, _⟩ := DataW.trod_int Tryz.underlying3 g0
    obtain ⟨B, hB, _, _⟩ := DataW.trod_int Tryz.underlying3 g1
    obtain ⟨C, hC, _, _⟩ := DataW.trod_int Tryz.underlying3 g2
    obtain ⟨b, hb, _⟩ := DataW.trod_bool Tryz.underlying4 g3
    refine ⟨⟨A, B, C, b⟩, ?_, trivial⟩
    simp at hA hB hC hb
    subst hA hB hC hb
    rfl
end Go.Proofs.YtibedokegignhaaGreatDoor
namespace Go.Proofs.YtibedokegignhaaGreatDoor
open Go.ChangeShapes Go.WideShapes Go.ChangeAt Go.RowKit
def yBy : Lay Int := ⟨5, 55, 1, 1, fun x => [.int .u8 x], 0⟩
theorem kBy : yBy.Ok := ⟨by decide, fun x => rfl, fun x u h => by
    simp [yBy] at h
    rw [h]; rfl, Tryz.underlying55, ⟨.int .u8 0, by kernel_rfl, rfl⟩⟩
theorem SlY.hs {w : World} {a : Option Addr} {n c : Nat} {l : List Int} (h : SlY yBy w a n c l) (hb : ∀ z ∈ l, 0 ≤ z ∧ z < 256) : Wi.Hs w a n c l :=
  ⟨h.len, h.cap, fun x hx i hi => by
    rcases h.at_ x hx with rfl | ⟨q, o, rfl, _, hl⟩
    · simp at hi
    · have := hl i l[i] (List.getElem?_eq_getElem hi) 0 (.int .u8 l[i]) rfl
      rw [Addr.add_lit]
      rw [show o + i * yBy.k + 0 = o + i from congrArg (o + ·) (Nat.mul_one i)] at this
      rw [show l.getD i 0 = l[i] by simp [List.getD_eq_getElem?_getD, List.getElem?_eq_getElem hi]]
      exact this, fun hx => ⟨List.eq_nil_of_length_eq_zero (by rw [h.len]; exact (h.nil hx).1), (h.nil hx).2⟩, hb⟩
theorem open_rowsN {α : Type} {Y : Lay α} (K : Y.Ok) [Inhabited α] (fits : α → Prop) {H : Type} {enc : TypeId × Value → H} {W : World} {base : Nat} {v : Value} {d : DataW H} {p : List MemPlace} (hT : Tryz.prog.cellsOf Y.T = Y.k)
    (el : ∀ {n : Nat} {cs : List Value} {x : DataW H × List MemPlace}, DataW.trod enc Tryz.prog W 0 (fun _ => true) true n Y.T cs = some x → ∃ q : α, fits q ∧ cs = Y.cs q)
    (hv : Value.okWide Tryz.prog W .any base Y.ST v) (h : DataW.Trod enc Tryz.prog W 0 (fun _ => true) true Y.ST v d p) :
    ∃ a len cap, v = .slice a len cap ∧ ∃ P : List α, SlY Y W a len cap P ∧ (∀ q ∈ P, fits q) ∧ (∃ el sp : List (DataW H), el.length = len ∧ el.length ≤ el.length + sp.length ∧ (len = 0 ∨ d = .slice el sp)) := by
  obtain ⟨a, n, c, rfl⟩ := okWide_slice K.und hv
  refine ⟨a, n, c, rfl, ?_⟩
  obtain ⟨fuel, h⟩ := h
  simp only [Value.cells] at h
  rcases Go.Deep.open_slice K.und h with ⟨hcs, hx⟩ | ⟨y, ln, cp, m, k, D, Pl, hcs, hb, hl, hm, hmm, hx, hall⟩
  · have e := (List.cons_eq_cons.1 hcs).1
    cases e
    exact ⟨[], ⟨rfl, Nat.le_refl _, by unfold maxLen; omega, fun _ => ⟨rfl, rfl⟩, fun x hx => .inl rfl⟩, by simp, [], [], rfl, Nat.le_refl _, .inl rfl⟩
  · have e := (List.cons_eq_cons.1 hcs).1
    cases e
    have hlm : n ≤ m := by rw [hmm]; split <;> omega
    have each : ∀ i, i < n → ∃ q : α, fits q ∧ (∀ j, j < Y.k → W.cell? ((y.add (i * Y.k)).add j) = (Y.cs q)[j]?) := by
      intro i hi
      obtain ⟨cs', h1, h2⟩ := hall i (by omega)
      rw [hT] at h1
      obtain ⟨q, hf, rfl⟩ := el h2
      obtain ⟨_, _, hcell⟩ := World.cells?_some h1
      exact ⟨q, hf, hcell⟩
    obtain ⟨q, hq⟩ := Go.Deep.choose_lt each
    have hd := congrArg Prod.fst hx
    refine ⟨(List.range n).map q, ⟨by simp, hl, hm, (fun e => by cases e), fun x hx => ?_⟩, ?_, ?_⟩
    · cases hx
      by_cases hn0 : n = 0
      · subst hn0
        exact .inl rfl
      · obtain ⟨b, o, s⟩ := y
        have z0 := (hq 0 (by omega)).2 0 K.kp
        have z1 := z0.trans (List.getElem?_eq_getElem (by rw [K.len]; exact K.kp))
        have hs := World.cell?_spot z1
        obtain rfl : s = none := by
          rw [Nat.zero_mul] at hs
          simpa [Addr.add] using hs
        refine .inr ⟨b, o, rfl, ?_, fun i x hx j u hu => ?_⟩
        · rw [Addr.add_lit, Addr.add_lit] at z1
          exact World.block_lt_of_cell? _ _ z1
        · have hi : i < n := by
            have := (List.getElem?_eq_some_iff.1 hx).1
            simpa using this
          have e : q i = x := by
            simp [hi] at hx
            exact hx
          subst e
          have hj : j < Y.k := by have := (List.getElem?_eq_some_iff.1 hu).1; rwa [K.len] at this
          have := (hq i hi).2 j hj
          rw [Addr.add_lit, Addr.add_lit] at this
          exact this.trans hu
    · intro z hz
      obtain ⟨i, hi, rfl⟩ := List.mem_map.1 hz
      exact (hq i (List.mem_range.1 hi)).1
    · dsimp only at hd
      exact ⟨_, _, by simp, Nat.le_add_right _ _, .inr hd⟩
theorem byCells : Tryz.prog.cellsOf 5 = 1 := by kernel_rfl
theorem byBytes : Tryz.prog.bytesOf 5 = 1 := by kernel_rfl
def CameBy (W : World) (a : Option Addr) (len cap : Nat) : Prop := ∃ P : List Int, SlY yBy W a len cap P ∧ (∀ z ∈ P, 0 ≤ z ∧ z < 256) ∧ len ≤ 140737488351232
theorem u8_range {z : Int} (h : (Lit.int .u8 z).wf = true) : 0 ≤ z ∧ z < 256 := by
  simp [Lit.wf, IntKind.min, IntKind.max, IntKind.bits, IntKind.signed] at h
  omega
theorem open_by {H : Type} {enc : TypeId × Value → H} {W : World} {base : Nat} {v : Value} {d : DataW H} {p : List MemPlace} (hv : Value.okWide Tryz.prog W .any base 55 v) (h : DataW.Trod enc Tryz.prog W 0 (fun _ => true) true 55 v d p)
    (hs : ∀ el sp, d = .slice el sp → (el.length + sp.length) * Tryz.prog.bytesOf 5 ≤ reachBytes) : ∃ a len cap, v = .slice a len cap ∧ CameBy W a len cap := by
  obtain ⟨a, n, c, rfl, P, h1, h2, el, sp, e1, _, e3⟩ := open_rowsN kBy (fun z => 0 ≤ z ∧ z < 256) byCells (fun h => by
    obtain ⟨K, hK, _, hw⟩ := DataW.trod_int Tryz.underlying5 h
    exact ⟨K, u8_range hw, hK⟩) hv h
  refine ⟨a, n, c, rfl, P, h1, h2, ?_⟩
  rcases e3 with e3 | e3
  · omega
  · have := hs el sp e3
    rw [byBytes, e1] at this
    simp only [reachBytes] at this
    omega
end Go.Proofs.YtibedokegignhaaGreatDoor
namespace Go.Proofs.YtibedokegignhaaGreatDoor
open Go.RowKit Go.Maps
open Classical
theorem want_k {ops : Array Oper} {o : Oper} {T : Array Value} {g j : Nat} {pol : Bool} (h : o.guard = some (g, pol)) (hg : (ops[g]?).bind (·.dst) = some j) (hj : T[j]? = some (gw true (.bool pol))) : Region.wanted o (yielded ops T) = true := by
  rw [want_g h hg hj]
  simp
theorem eqSelf9 (x y : Operand) (a : Int) (w : World) : (do eqGuard .eql 3 x y (.int .i64 a) (.int .i64 a); binOp .eql 3 (.int .i64 a) (.int .i64 a) : Sem Value).run Tryz.prog w = .ok (.bool true) w := by
  go_simp
theorem refdecode_sl9 (c : Cf) (a : Option Addr) (n c_ : Nat) (f : List Int) (w : World) (hH : Wi.Hs w a n c_ f) (hm : n ≤ 140737488355328) :
    Calls Tryz.prog 21 #[c.val, .slice a n c_] w fun e w' => ∃ sa sc ta tc, e = .returned (.tuple #[(dcM c f).1.m.val (.slice sa (dcM c f).1.L.length sc) (.slice ta (dcM c f).1.D.length tc), .int .i64 (dcM c f).2]) ∧ SlY yE w' sa (dcM c f).1.L.length sc (dcM c f).1.L ∧ SlY yD w' ta (dcM c f).1.D.length tc (dcM c f).1.D ∧ Below w.heap.size w w' := by
  refine (refdecode7 c a n c_ f w hH hm).mono ?_
  rintro e w' ⟨s, t, rfl, h1, h2, hb⟩
  obtain ⟨sa, sc, rfl, k1, _⟩ := h1.sl kE
  obtain ⟨ta, tc, rfl, k2, _⟩ := h2.sl kD
  exact ⟨sa, sc, ta, tc, rfl, k1, k2, hb⟩
theorem samemsg_eq9 (m : Mg) (a1 a2 : Option Addr) (c1 c2 : Nat) (b1 b2 : Option Addr) (e1 e2 : Nat) (L : List En) (D : List (Int × Int)) (w : World) (h1 : SlY yE w a1 L.length c1 L) (h2 : SlY yD w a2 D.length c2 D) (h3 : SlY yE w b1 L.length e1 L) (h4 : SlY yD w b2 D.length e2 D) :
    Calls Tryz.prog 22 #[m.val (.slice a1 L.length c1) (.slice a2 D.length c2), m.val (.slice b1 L.length e1) (.slice b2 D.length e2)] w fun e w' => e = .returned (.bool true) ∧ Below w.heap.size w w' := by
  have := samemsg_any m m a1 a2 b1 b2 L.length D.length L.length D.length c1 c2 e1 e2 L L D D w h1 h2 h3 h4
  rwa [(sameM_iff m m L L D D).2 ⟨rfl, rfl, rfl⟩] at this
end Go.Proofs.YtibedokegignhaaGreatDoor
namespace Go.Proofs.YtibedokegignhaaGreatDoor.Wi
open Go.RowKit
structure GQ (w : World) (b : Nat) (l : List Int) (K : Nat → Prop) : Prop where
  lt : b < w.heap.size
  kb : K b
  bytes : ∃ r c g n k, w.cell? ⟨b, 0, none⟩ = some (.slice (some ⟨r, 0, none⟩) 1 c) ∧ 1 ≤ c ∧ w.cell? ⟨r, 0, none⟩ = some (.slice (some ⟨g, 0, none⟩) n k) ∧ Hs w (some ⟨g, 0, none⟩) n k l ∧ K r ∧ K g
  was : ∃ r c g n k, w.cell? ⟨b, 1, none⟩ = some (.slice (some ⟨r, 0, none⟩) 1 c) ∧ 1 ≤ c ∧ w.cell? ⟨r, 0, none⟩ = some (.slice (some ⟨g, 0, none⟩) n k) ∧ Hs w (some ⟨g, 0, none⟩) n k l ∧ K r ∧ K g
  draws : w.cell? ⟨b, 2, none⟩ = some (.slice none 0 0)
  entries : w.cell? ⟨b, 4, none⟩ = some (.slice none 0 0)
  ints : w.cell? ⟨b, 6, none⟩ = some (.slice none 0 0)
  states : w.cell? ⟨b, 8, none⟩ = some (.slice none 0 0)
theorem GQ.one {w : World} {b : Nat} {l : List Int} {K : Nat → Prop} (h : GQ w b l K) : GOne w b l := by
  obtain ⟨r, c, g, n, k, h1, h2, h3, h4, _⟩ := h.bytes
  obtain ⟨r', c', g', n', k', f1, f2, f3, f4, _⟩ := h.was
  exact ⟨h.lt, ⟨r, c, _, n, k, h1, h2, h3, h4⟩, ⟨r', c', _, n', k', f1, f2, f3, f4⟩, h.draws, h.entries, h.ints, h.states⟩
set_option maxHeartbeats 1000000 in
theorem given_newU (b : Nat) (a : Option Addr) (n c : Nat) (l : List Int) (w : World) (hb : b < w.heap.size) (c0 : w.cell? ⟨b, 0, none⟩ = some (.slice none 0 0)) (c1 : w.cell? ⟨b, 1, none⟩ = some (.slice none 0 0)) (c2 : w.cell? ⟨b, 2, none⟩ = some (.slice none 0 0)) (c4 : w.cell? ⟨b, 4, none⟩ = some (.slice none 0 0)) (c6 : w.cell? ⟨b, 6, none⟩ = some (.slice none 0 0)) (c8 : w.cell? ⟨b, 8, none⟩ = some (.slice none 0 0))
    (f0 : w.frozen? ⟨b, 0, none⟩ = false) (f1 : w.frozen? ⟨b, 1, none⟩ = false) (h : Hs w a n c l) (hm : n ≤ 140737488351232) :
    Calls Tryz.prog 20 #[.pointer (some ⟨b, 0, none⟩), .slice a n c] w fun e w' => ∃ a' c', e = .returned (.slice a' n c') ∧ Hs w' a' n c' l ∧ c' ≤ maxLen ∧ GQ w' b (l ++ [90]) (fun k => k = b ∨ w.heap.size ≤ k) ∧ Below b w w' ∧ ∀ k, k < w.heap.size → k ≠ b → w'.heap[k]? = w.heap[k]? := by
  have hby := h.byte
  have HLN := hide h.len
  go_enter Tryz.func20, Tryz.ntmps20
  go_wp2_with fail
  refine (copy_any a n c l w h (by omega)).mono ?_
  rintro e w1 ⟨v1, rfl, o1, b1⟩
  have z1 := b1.size
  go_wp2_with (at_builtin; go_must (refine app_one _ rfl (.tmp 7) (.tmp 8) rfl w.heap.size l v1 rfl ⟨w1.heap.size, 0, none⟩ rfl 90 (by simp) (o1.alloc _) (by simp; omega) (by rw [HLN.out]; omega) ?_))
  intro v2 w2 o2 n2 g2
  have b2 : Below w.heap.size w w2 := (o1.alloc _).grown (b1.alloc z1 _) g2 (by simp; omega)
  have z2 := b2.size
  obtain ⟨g, k, hv, hg1, hg2⟩ := o2.shape n2
  have hln : (l ++ [90]).length = n + 1 := by simp [HLN.out]
  rw [hln] at hv
  subst hv
  have HLN2 := hide hln
  clear o1 b1 g2 hln n2
  have d0 := cell_later b2 c0
  have d1 := cell_later b2 c1
  have d2 := cell_later b2 c2
  have d4 := cell_later b2 c4
  have d6 := cell_later b2 c6
  have d8 := cell_later b2 c8
  have e0 := (b2.frozen (p := ⟨b, 0, none⟩) hb).trans f0
  have e1 := (b2.frozen (p := ⟨b, 1, none⟩) hb).trans f1
  have hb2 : b < w2.heap.size := by omega
  clear c0 c1 c2 c4 c6 c8 f0 f1
  go_wp2_with (at_builtin; go_must (refine first_one _ rfl (.tmp 14) (.tmp 16) rfl rfl ⟨w2.heap.size, 0, none⟩ rfl (.slice (some ⟨g, 0, none⟩) (n + 1) k) rfl (by simp) ?_))
  intro r3 k3 w3 h3 h4 h5 h6 b3'
  have b3 : Below w2.heap.size w2 w3 := ((Below.refl _ _).alloc (Nat.le_refl _) _).trans (b3'.mono (by simp))
  have h4' : w2.heap.size < r3 := by omega
  have z3 := b3.size
  have o3 : Own w.heap.size w3 (.slice (some ⟨g, 0, none⟩) (n + 1) k) (l ++ [90]) := o2.kept b3
  have d0 := cell_later b3 d0
  have d1 := cell_later b3 d1
  have d2 := cell_later b3 d2
  have d4 := cell_later b3 d4
  have d6 := cell_later b3 d6
  have d8 := cell_later b3 d8
  have e0 := (b3.frozen (p := ⟨b, 0, none⟩) hb2).trans e0
  have e1 := (b3.frozen (p := ⟨b, 1, none⟩) hb2).trans e1
  have hb3 : b < w3.heap.size := by omega
  have bw3 : Below b w w3 := (b2.mono (by omega)).trans (b3.mono (by omega))
  have kw3 : ∀ k, k < w.heap.size → w3.heap[k]? = w.heap[k]? := fun k hk => (b3.block k (by omega)).trans (b2.block k hk)
  have jz3 : w.heap.size ≤ w3.heap.size := by omega
  clear b3' b3 o2 h4 b2
  have hgb : g ≠ b := by omega
  have hrb : r3 ≠ b := by omega
  have hby2 : ∀ z ∈ l ++ [90], 0 ≤ z ∧ z < 256 := by
    intro z hz
    rcases List.mem_append.1 hz with hz | hz
    · exact hby z hz
    · simp at hz; omega
  have hx3 := o3.hs' HLN2.out hby2
  have hcm := o3.capmax
  have hcp := o3.cap
  go_wp2_with fail
  have hx4 : Hs (w3.setCell ⟨b, 0, none⟩ (.slice (some ⟨r3, 0, none⟩) 1 k3)) (some ⟨g, 0, none⟩) (n + 1) k (l ++ [90]) := hx3.far' (by show b ≠ g; exact fun e => hgb e.symm) _
  have bw4 : Below b w (w3.setCell ⟨b, 0, none⟩ (.slice (some ⟨r3, 0, none⟩) 1 k3)) := bw3.setCell (Nat.le_refl _) _
  have kw4 : ∀ k, k < w.heap.size → k ≠ b → (w3.setCell ⟨b, 0, none⟩ (.slice (some ⟨r3, 0, none⟩) 1 k3)).heap[k]? = w.heap[k]? := fun k hk hne => (Below.heap_setCell w3 _ _ k hne).trans (kw3 k hk)
  have jw : w.heap.size ≤ (w3.setCell ⟨b, 0, none⟩ (.slice (some ⟨r3, 0, none⟩) 1 k3)).heap.size := by simp; omega
  clear kw3 jz3
  have j0 : (w3.setCell ⟨b, 0, none⟩ (.slice (some ⟨r3, 0, none⟩) 1 k3)).cell? ⟨b, 0, none⟩ = some (.slice (some ⟨r3, 0, none⟩) 1 k3) := by go_simp
  have j1 : (w3.setCell ⟨b, 0, none⟩ (.slice (some ⟨r3, 0, none⟩) 1 k3)).cell? ⟨b, 1, none⟩ = some (.slice none 0 0) := by go_simp
  have j2 : (w3.setCell ⟨b, 0, none⟩ (.slice (some ⟨r3, 0, none⟩) 1 k3)).cell? ⟨b, 2, none⟩ = some (.slice none 0 0) := by go_simp
  have j4 : (w3.setCell ⟨b, 0, none⟩ (.slice (some ⟨r3, 0, none⟩) 1 k3)).cell? ⟨b, 4, none⟩ = some (.slice none 0 0) := by go_simp
  have j6 : (w3.setCell ⟨b, 0, none⟩ (.slice (some ⟨r3, 0, none⟩) 1 k3)).cell? ⟨b, 6, none⟩ = some (.slice none 0 0) := by go_simp
  have j8 : (w3.setCell ⟨b, 0, none⟩ (.slice (some ⟨r3, 0, none⟩) 1 k3)).cell? ⟨b, 8, none⟩ = some (.slice none 0 0) := by go_simp
  have jr : (w3.setCell ⟨b, 0, none⟩ (.slice (some ⟨r3, 0, none⟩) 1 k3)).cell? ⟨r3, 0, none⟩ = some (.slice (some ⟨g, 0, none⟩) (n + 1) k) := by rw [World.cell?_of_block (w := w3) (Below.heap_setCell w3 _ _ r3 hrb)]; exact h3
  have jf : (w3.setCell ⟨b, 0, none⟩ (.slice (some ⟨r3, 0, none⟩) 1 k3)).frozen? ⟨b, 1, none⟩ = false := by go_simp
  have jz : b < (w3.setCell ⟨b, 0, none⟩ (.slice (some ⟨r3, 0, none⟩) 1 k3)).heap.size := by simpa using hb3
  have jr2 : r3 < (w3.setCell ⟨b, 0, none⟩ (.slice (some ⟨r3, 0, none⟩) 1 k3)).heap.size := by simpa using h5
  have jg2 : g < (w3.setCell ⟨b, 0, none⟩ (.slice (some ⟨r3, 0, none⟩) 1 k3)).heap.size := by simp; omega
  clear d0 d1 d2 d4 d6 d8 e0 e1 o3 hx3 bw3 h3 hb3
  generalize w3.setCell ⟨b, 0, none⟩ (.slice (some ⟨r3, 0, none⟩) 1 k3) = W at *
  go_region_law (first | (refine step_first rfl (.tmp 24) (.tmp 27) rfl rfl ⟨_, 0, none⟩ rfl _ rfl (by simp; rfl) ?_; intro r5 k6 w6 m1 m2 m3 m4 m5; have bz5 := b5.size; have bW : Below W.heap.size W w6 := (((Below.refl W.heap.size W).drew.trans (b5.mono (by simp))).alloc (by simpa using bz5) _).trans (m5.mono (by simp at bz5 ⊢; omega)); have q1 := cell_later bW j1; have qf := (bW.frozen (p := ⟨b, 1, none⟩) jz).trans jf) | (refine step_copy rfl (.tmp 25) rfl (some ⟨g, 0, none⟩) (n + 1) k rfl (l ++ [90]) (hx4.later ((Below.refl _ _).drew)) (by omega) ?_; intro v5 w5 o5 b5; have s1 : w5.cell? ⟨b, 1, none⟩ = some (.slice none 0 0) := cell_later b5 (by exact j1); have hz5 : b < w5.heap.size := Nat.lt_of_lt_of_le jz b5.size; have s2 : ∀ x, (w5.alloc x).cell? ⟨b, 1, none⟩ = some (.slice none 0 0) := (fun x => cell_later ((Below.refl _ _).alloc (Nat.le_refl _) x) s1); obtain ⟨g5, k5, hv5, hg5, hg6⟩ := o5.shape (o5.ne_nil (by simp)); subst hv5))
  all_goals go_wp2_with fail
  all_goals
    go_ret
    have hll : (l ++ [90]).length = l.length + 1 := by simp
    rw [hll] at o5
    have b56 : Below w5.heap.size w5 w6 := ((Below.refl _ _).alloc (Nat.le_refl _) _).trans (m5.mono (by simp))
    have o6 := (o5.kept b56).hs' hll hby2
    have q0 := cell_later bW j0
    have q2 := cell_later bW j2
    have q4 := cell_later bW j4
    have q6 := cell_later bW j6
    have q8 := cell_later bW j8
    have qr := cell_later bW jr
    have x6 := hx4.later bW
    have hr5k : w.heap.size ≤ r5 := by have m2' := m2; have bz' := bz5; simp at m2' bz'; omega
    have hg5k : w.heap.size ≤ g5 := by have hg5' := hg5; simp at hg5'; omega
    have hr5 : r5 ≠ b := by simp at m2; omega
    have hg5b : g5 ≠ b := by simp at hg5; omega
    have hW6 := bW.size
    have x7 := x6.far' (p := ⟨b, 1, none⟩) (by show b ≠ g; exact fun e => hgb e.symm) (.slice (some ⟨r5, 0, none⟩) 1 k6)
    have o7 := o6.far' (p := ⟨b, 1, none⟩) (by show b ≠ g5; exact fun e => hg5b e.symm) (.slice (some ⟨r5, 0, none⟩) 1 k6)
    have x8 := x7.cut n (by omega)
    have htk : List.take n (l ++ [90]) = l := by rw [← HLN.out]; simp
    rw [htk] at x8
    have kw6 : ∀ k, k < w.heap.size → k ≠ b → w6.heap[k]? = w.heap[k]? := fun k hk hne => (bW.block k (by omega)).trans (kw4 k hk hne)
    have bw6 : Below b w w6 := bw4.trans (bW.mono (Nat.le_of_lt jz))
    have t0 : (w6.setCell ⟨b, 1, none⟩ (.slice (some ⟨r5, 0, none⟩) 1 k6)).cell? ⟨b, 0, none⟩ = some (.slice (some ⟨r3, 0, none⟩) 1 k3) := by go_simp
    have t1 : (w6.setCell ⟨b, 1, none⟩ (.slice (some ⟨r5, 0, none⟩) 1 k6)).cell? ⟨b, 1, none⟩ = some (.slice (some ⟨r5, 0, none⟩) 1 k6) := by go_simp
    have t2 : (w6.setCell ⟨b, 1, none⟩ (.slice (some ⟨r5, 0, none⟩) 1 k6)).cell? ⟨b, 2, none⟩ = some (.slice none 0 0) := by go_simp
    have t4 : (w6.setCell ⟨b, 1, none⟩ (.slice (some ⟨r5, 0, none⟩) 1 k6)).cell? ⟨b, 4, none⟩ = some (.slice none 0 0) := by go_simp
    have t6 : (w6.setCell ⟨b, 1, none⟩ (.slice (some ⟨r5, 0, none⟩) 1 k6)).cell? ⟨b, 6, none⟩ = some (.slice none 0 0) := by go_simp
    have t8 : (w6.setCell ⟨b, 1, none⟩ (.slice (some ⟨r5, 0, none⟩) 1 k6)).cell? ⟨b, 8, none⟩ = some (.slice none 0 0) := by go_simp
    have tr : (w6.setCell ⟨b, 1, none⟩ (.slice (some ⟨r5, 0, none⟩) 1 k6)).cell? ⟨r3, 0, none⟩ = some (.slice (some ⟨g, 0, none⟩) (n + 1) k) := by rw [World.cell?_of_block (w := w6) (Below.heap_setCell w6 _ _ r3 hrb)]; exact qr
    have tq : (w6.setCell ⟨b, 1, none⟩ (.slice (some ⟨r5, 0, none⟩) 1 k6)).cell? ⟨r5, 0, none⟩ = some (.slice (some ⟨g5, 0, none⟩) (l.length + 1) k5) := by rw [World.cell?_of_block (w := w6) (Below.heap_setCell w6 _ _ r5 hr5)]; exact m1
    exact ⟨_, _, rfl, x8, hcm, ⟨by simp; omega, .inl rfl, ⟨_, _, _, _, _, t0, h6, tr, x7, .inr (by omega), .inr (by omega)⟩, ⟨_, _, _, _, _, t1, m4, tq, o7, .inr hr5k, .inr hg5k⟩, t2, t4, t6, t8⟩, bw6.setCell (Nat.le_refl _) _, fun k hk hne => (Below.heap_setCell w6 _ _ k hne).trans (kw6 k hk hne)⟩
end Go.Proofs.YtibedokegignhaaGreatDoor.Wi
namespace Go.Proofs.YtibedokegignhaaGreatDoor
open Go.RowKit Go.Maps
open Classical
structure G09 (w : World) (b : Nat) : Prop where
  lt : b < w.heap.size
  c0 : w.cell? ⟨b, 0, none⟩ = some (.slice none 0 0)
  c1 : w.cell? ⟨b, 1, none⟩ = some (.slice none 0 0)
  c2 : w.cell? ⟨b, 2, none⟩ = some (.slice none 0 0)
  c4 : w.cell? ⟨b, 4, none⟩ = some (.slice none 0 0)
  c6 : w.cell? ⟨b, 6, none⟩ = some (.slice none 0 0)
  c8 : w.cell? ⟨b, 8, none⟩ = some (.slice none 0 0)
  f0 : w.frozen? ⟨b, 0, none⟩ = false
  f1 : w.frozen? ⟨b, 1, none⟩ = false
theorem G09.new (w : World) : G09 (w.alloc gvO) w.heap.size := by
  unfold gvO
  exact ⟨by simp, by go_simp, by go_simp, by go_simp, by go_simp, by go_simp, by go_simp, by go_simp, by go_simp⟩
theorem G09.later {w w' : World} {b : Nat} (h : G09 w b) (hb : Below w.heap.size w w') : G09 w' b :=
  ⟨Nat.lt_of_lt_of_le h.lt hb.size, (hb.cell (p := ⟨b, 0, none⟩) h.lt).trans h.c0, (hb.cell (p := ⟨b, 1, none⟩) h.lt).trans h.c1, (hb.cell (p := ⟨b, 2, none⟩) h.lt).trans h.c2, (hb.cell (p := ⟨b, 4, none⟩) h.lt).trans h.c4, (hb.cell (p := ⟨b, 6, none⟩) h.lt).trans h.c6, (hb.cell (p := ⟨b, 8, none⟩) h.lt).trans h.c8, (hb.frozen (p := ⟨b, 0, none⟩) h.lt).trans h.f0, (hb.frozen (p := ⟨b, 1, none⟩) h.lt).trans h.f1⟩
theorem gq_lt1 {w : World} {g n k : Nat} {l : List Int} (h : Wi.Hs w (some ⟨g, 0, none⟩) n k l) (hl : 0 < l.length) : g < w.heap.size := by
  have hr := h.row _ rfl 0 (by have := h.len; omega)
  rw [Addr.add_lit] at hr
  exact World.block_lt_of_cell? _ _ hr
theorem gq_upd {S K : Nat → Prop} {w w' : World} {b : Nat} {l : List Int} (h : Wi.GQ w b l K) (u : Upd S w w') (hs : ∀ k, K k → ¬ S k) : Wi.GQ w' b l K := by
  obtain ⟨r, c, g, n, k, h1, h2, h3, h4, h5, h6⟩ := h.bytes
  obtain ⟨r', c', g', n', k', f1, f2, f3, f4, f5, f6⟩ := h.was
  have hb := hs b h.kb
  exact ⟨Nat.lt_of_lt_of_le h.lt u.size, h.kb, ⟨r, c, g, n, k, (u.cell (p := ⟨b, 0, none⟩) h.lt hb).trans h1, h2, (u.cell (p := ⟨r, 0, none⟩) (World.block_lt_of_cell? _ _ h3) (hs r h5)).trans h3, hs_far h4 (fun x hx hl => by cases hx; exact ⟨g, 0, rfl, fun i => u.cell (p := ⟨g, i, none⟩) (gq_lt1 h4 hl) (hs g h6)⟩), h5, h6⟩,
    ⟨r', c', g', n', k', (u.cell (p := ⟨b, 1, none⟩) h.lt hb).trans f1, f2, (u.cell (p := ⟨r', 0, none⟩) (World.block_lt_of_cell? _ _ f3) (hs r' f5)).trans f3, hs_far f4 (fun x hx hl => by cases hx; exact ⟨g', 0, rfl, fun i => u.cell (p := ⟨g', i, none⟩) (gq_lt1 f4 hl) (hs g' f6)⟩), f5, f6⟩,
    (u.cell (p := ⟨b, 2, none⟩) h.lt hb).trans h.draws, (u.cell (p := ⟨b, 4, none⟩) h.lt hb).trans h.entries, (u.cell (p := ⟨b, 6, none⟩) h.lt hb).trans h.ints, (u.cell (p := ⟨b, 8, none⟩) h.lt hb).trans h.states⟩
theorem gq_later {K : Nat → Prop} {w w' : World} {b : Nat} {l : List Int} (h : Wi.GQ w b l K) (hb : Below w.heap.size w w') : Wi.GQ w' b l K := gq_upd (S := fun _ => False) h (Upd.of_below hb) (fun _ _ => id)
theorem gq_ne {K : Nat → Prop} {w : World} {b : Nat} {l : List Int} (h : Wi.GQ w b l K) {q : Nat} (hq : ∀ k, K k → k < w.heap.size → k ≠ q) (hl : 0 < l.length) : Wi.GQ w b l (fun k => k ≠ q) := by
  obtain ⟨r, c, g, n, k, h1, h2, h3, h4, h5, h6⟩ := h.bytes
  obtain ⟨r', c', g', n', k', f1, f2, f3, f4, f5, f6⟩ := h.was
  exact ⟨h.lt, hq b h.kb h.lt, ⟨r, c, g, n, k, h1, h2, h3, h4, hq r h5 (World.block_lt_of_cell? _ _ h3), hq g h6 (gq_lt1 h4 hl)⟩, ⟨r', c', g', n', k', f1, f2, f3, f4, hq r' f5 (World.block_lt_of_cell? _ _ f3), hq g' f6 (gq_lt1 f4 hl)⟩, h.draws, h.entries, h.ints, h.states⟩
theorem upd_k9 {b : Nat} {w w' : World} (hb : Below b w w') (hk : ∀ k, k < w.heap.size → k ≠ b → w'.heap[k]? = w.heap[k]?) : Upd (fun k => k = b) w w' := ⟨hb.os, hb.tape, hb.output, hb.size, fun k h1 h2 => hk k h1 h2⟩
set_option maxHeartbeats 4000000 in
theorem law_decodes7 (c : Cf) (a : Option Addr) (n c_ : Nat) (f : List Int) (w : World) (hT : Tab w) (hH : Wi.Hs w a n c_ f) (hn : n ≤ 140737488351232) :
    Calls Tryz.prog 5 #[c.val, .slice a n c_] w fun e w' => e = .returned (.bool true) ∧ Below w.heap.size w w' := by
  go_enter Tryz.func5, Tryz.ntmps5
  go_upto_region 0 with fail
  refine wp_region_lit ?_
  refine vl_gen (fun T => T.size = 38 ∧ T[0]? = some (gw true (.agg #[.int .i64 c.f, .int .i64 c.r, .int .i64 c.p, .bool c.u])) ∧ T[1]? = some (gw true (.slice a n c_))) ⟨rfl, rfl, rfl⟩ (fun Z0 ⟨hz, s0, s1⟩ => ?_)
  obtain ⟨w1, hw1⟩ : ∃ y, y = w.alloc (.cells #[.int .i64 c.f, .int .i64 c.r, .int .i64 c.p, .bool c.u] 23) := ⟨_, rfl⟩
  have hs1 : w1.heap.size = w.heap.size + 1 := by rw [hw1]; simp
  have hB : Below w.heap.size w w1 := by rw [hw1]; exact (Below.refl _ _).alloc (Nat.le_refl _) _
  have Cc : CfB w1 w.heap.size c := ⟨by omega, fun i x hx => by rw [hw1]; exact cell_box _ _ _ _ _ (by simpa using hx)⟩
  have Tc := hT.later hB hT.lt
  have HH := Wi.Hs.later hH hB
  obtain ⟨w2, hw2⟩ : ∃ y, y = w1.alloc gvO := ⟨_, rfl⟩
  have hW : Below w1.heap.size w1 w2 := by rw [hw2]; exact (Below.refl _ _).alloc (Nat.le_refl _) _
  have G2 : G09 w2 w1.heap.size := by rw [hw2]; exact G09.new w1
  refine vw (.pointer (some ⟨w.heap.size, 0, none⟩)) w1 (want_none rfl) (ex_box rfl (ev s0 rfl) (by rw [hw1]; exact bxCf _ _ _ _ _)) rfl hz (by decide) (fun Ya zz kk s2 => ?_)
  replace s1 := ku s1
  replace hz := zz
  clear kk zz s0
  refine vt (.bool false) (ex_assign rfl rfl) hz (fun Yb zz kk s4 => ?_)
  replace s1 := ku s1
  replace s2 := ku s2
  replace hz := zz
  clear kk zz Ya
  clear s4
  refine wpList_nil ?_
  go_upto_region 1 with fail
  refine wp_region_lit ?_
  refine vw (.pointer (some ⟨w1.heap.size, 0, none⟩)) w2 (want_none rfl) (ex_al rfl (by rw [hw2]; exact alGv _)) rfl hz (by decide) (fun Yc zz kk s5 => ?_)
  replace s1 := ku s1
  replace s2 := ku s2
  replace hz := zz
  clear kk zz
  refine wpList_nil ?_
  clear hw1 hw2 hT
  go_upto_region 2 with fail
  refine v_cut (fun T v => T.size = 38 ∧ T[1]? = some (gw true (.slice a n c_)) ∧ T[2]? = some (gw true (.pointer (some ⟨w.heap.size, 0, none⟩))) ∧ T[5]? = some (gw true (.pointer (some ⟨w1.heap.size, 0, none⟩))) ∧ ∃ q6 ua uc va vc, T[6]? = some (gw true (.pointer (some ⟨q6, 0, none⟩))) ∧ T[7]? = some (gw true (.int .i64 (dcM c f).2)) ∧ Hid (MBox v q6 (dcM c f).1.m (.slice ua (dcM c f).1.L.length uc) (.slice va (dcM c f).1.D.length vc) ∧ SlY yE v ua (dcM c f).1.L.length uc (dcM c f).1.L ∧ SlY yD v va (dcM c f).1.D.length vc (dcM c f).1.D ∧ Wi.GOne v w1.heap.size (f ++ [90]) ∧ Below w1.heap.size w1 v)) ?_ ?_
  · refine vh_start (fun v => Below w1.heap.size w1 v) (by kernel_rfl) ?_
    have hS : Below w1.heap.size w1 w2.drew := hW.drew
    have GW := G2.later (Below.refl _ _).drew
    clear hW G2
    obtain ⟨wd, hwd⟩ : ∃ y, y = w2.drew := ⟨_, rfl⟩
    rw [← hwd] at hS GW ⊢
    clear hwd
    refine vh_take 0 true (.agg #[.int .i64 c.f, .int .i64 c.r, .int .i64 c.p, .bool c.u]) rfl (by kernel_rfl) (by kernel_rfl) (by kernel_rfl) (want_none rfl) (fun hc v hv => ex_ld rfl (ev s2 rfl) (Cc.bel hv).ldAll) rfl hz (by decide) hS (fun R1 zz kk s11 => ?_)
    replace s1 := ku s1
    replace s2 := ku s2
    replace s5 := ku s5
    replace hz := zz
    clear kk zz
    refine vh_take 1 true (.slice a n c_) rfl (by kernel_rfl) (by kernel_rfl) (by kernel_rfl) (want_none rfl) (fun hc v hv => ex_move rfl (ev s1 rfl)) rfl hz (by decide) hS (fun R2 zz kk s12 => ?_)
    replace s1 := ku s1
    replace s2 := ku s2
    replace s5 := ku s5
    replace s11 := ku s11
    replace hz := zz
    clear kk zz
    obtain ⟨q6, hq6⟩ : ∃ q, q = wd.heap.size := ⟨_, rfl⟩
    obtain ⟨wa, hwa⟩ : ∃ y, y = wd.alloc (.cells (zG.cs nilS nilS).toArray 38) := ⟨_, rfl⟩
    have hbA : Below wd.heap.size wd wa := by rw [hwa]; exact (Below.refl _ _).alloc (Nat.le_refl _) _
    have MB : MBox wa q6 zG nilS nilS := by rw [hwa, hq6]; exact MBox.new0 wd
    have hq6w : w1.heap.size ≤ q6 := by have := hS.size; omega
    have hSA : Below w1.heap.size w1 wa := hS.trans (hbA.mono hS.size)
    refine vh_two 2 7 (by kernel_rfl) rfl rfl (want_none rfl) (ex_call rfl (by simp only [List.map_toArray, List.map_cons, List.map_nil, (ev s5 rfl), (ev s12 rfl), evc] <;> rfl) rfl) (Wi.given_newU w1.heap.size a n c_ f _ GW.lt GW.c0 GW.c1 GW.c2 GW.c4 GW.c6 GW.c8 GW.f0 GW.f1 (Wi.Hs.later HH hS) hn) rfl hz (by decide) ?_ (.pointer (some ⟨q6, 0, none⟩)) wa (want_none rfl) (ex_al rfl (by rw [hwa, hq6]; exact alM _)) rfl (by decide) hSA ?_
    · clear hwa hbA MB hq6w hSA hq6
      rintro e y1 ⟨fa, fc, rfl, HF, _, GO, hbB, hkB⟩
      refine ⟨_, rfl, hS.trans hbB, fun R3 zz kk s13 => ?_⟩
      replace s1 := ku s1
      replace s2 := ku s2
      replace s5 := ku s5
      replace s11 := ku s11
      replace s12 := ku s12
      replace hz := zz
      clear kk zz
      have hS2 := hS.trans hbB
      clear hS
      have hS := hS2
      clear hS2
      clear GW hbB hkB wa q6
      obtain ⟨q6, hq6⟩ : ∃ q, q = y1.heap.size := ⟨_, rfl⟩
      obtain ⟨ya, hya⟩ : ∃ y, y = y1.alloc (.cells (zG.cs nilS nilS).toArray 38) := ⟨_, rfl⟩
      have hbA : Below y1.heap.size y1 ya := by rw [hya]; exact (Below.refl _ _).alloc (Nat.le_refl _) _
      have MB : MBox ya q6 zG nilS nilS := by rw [hya, hq6]; exact MBox.new0 y1
      have hq6w : w1.heap.size ≤ q6 := by have := hS.size; omega
      have hSA : Below w1.heap.size w1 ya := hS.trans (hbA.mono hS.size)
      refine vh_two 3 7 (by kernel_rfl) rfl rfl (want_none rfl) (ex_call rfl (by simp only [List.map_toArray, List.map_cons, List.map_nil, (ev s11 rfl), (ev s13 rfl), evc] <;> rfl) rfl) (decode_any c fa n fc f _ HF (by omega) (Tc.later hS Tc.lt)) rfl hz (by decide) ?_ (.pointer (some ⟨q6, 0, none⟩)) ya (want_none rfl) (ex_al rfl (by rw [hya, hq6]; exact alM _)) rfl (by decide) hSA ?_
      · clear hya hbA MB hq6w hSA hq6
        rintro e y2 ⟨sv, tv, rfl, OL, OD, hb⟩; obtain ⟨ua, uc, hsv, _⟩ := OL.form; obtain ⟨va, vc, htv, _⟩ := OD.form; subst hsv htv
        refine ⟨_, rfl, hS.trans (hb.mono hS.size), fun R4 zz kk s14 => ?_⟩
        replace s1 := ku s1
        replace s2 := ku s2
        replace s5 := ku s5
        replace s11 := ku s11
        replace s12 := ku s12
        replace s13 := ku s13
        replace hz := zz
        clear kk zz
        have hS2 := hS.trans (hb.mono hS.size)
        have GO2 := gq_later GO hb
        clear hS GO
        have hS := hS2
        have GO := GO2
        clear hS2 GO2
        clear hb ya q6
        refine vh_take 4 true (.tuple #[(dcM c f).1.m.val (.slice ua (dcM c f).1.L.length uc) (.slice va (dcM c f).1.D.length vc), .int .i64 (dcM c f).2]) rfl (by kernel_rfl) (by kernel_rfl) (by kernel_rfl) (want_none rfl) (fun hc v hv => ex_move rfl (ev s14 rfl)) rfl hz (by decide) hS (fun R5 zz kk s10 => ?_)
        replace s1 := ku s1
        replace s2 := ku s2
        replace s5 := ku s5
        replace s11 := ku s11
        replace s12 := ku s12
        replace s13 := ku s13
        replace s14 := ku s14
        replace hz := zz
        clear kk zz
        refine vh_take 5 true ((dcM c f).1.m.val (.slice ua (dcM c f).1.L.length uc) (.slice va (dcM c f).1.D.length vc)) rfl (by kernel_rfl) (by kernel_rfl) (by kernel_rfl) (want_none rfl) (fun hc v hv => ex_ext rfl (ev s10 rfl) rfl) rfl hz (by decide) hS (fun R6 zz kk s15 => ?_)
        replace s1 := ku s1
        replace s2 := ku s2
        replace s5 := ku s5
        replace s11 := ku s11
        replace s12 := ku s12
        replace s13 := ku s13
        replace s14 := ku s14
        replace s10 := ku s10
        replace hz := zz
        clear kk zz
        refine vh_take 6 true (.int .i64 (dcM c f).2) rfl (by kernel_rfl) (by kernel_rfl) (by kernel_rfl) (want_none rfl) (fun hc v hv => ex_ext rfl (ev s10 rfl) rfl) rfl hz (by decide) hS (fun R7 zz kk s16 => ?_)
        replace s1 := ku s1
        replace s2 := ku s2
        replace s5 := ku s5
        replace s11 := ku s11
        replace s12 := ku s12
        replace s13 := ku s13
        replace s14 := ku s14
        replace s10 := ku s10
        replace s15 := ku s15
        replace hz := zz
        clear kk zz
        obtain ⟨q6, hq6⟩ : ∃ q, q = y2.heap.size := ⟨_, rfl⟩
        obtain ⟨yb, hyb⟩ : ∃ y, y = y2.alloc (.cells (zG.cs nilS nilS).toArray 38) := ⟨_, rfl⟩
        have hbA : Below y2.heap.size y2 yb := by rw [hyb]; exact (Below.refl _ _).alloc (Nat.le_refl _) _
        have MB : MBox yb q6 zG nilS nilS := by rw [hyb, hq6]; exact MBox.new0 y2
        have hq6w : w1.heap.size ≤ q6 := by have := hS.size; omega
        have hSA : Below w1.heap.size w1 yb := hS.trans (hbA.mono hS.size)
        have hqL : ∀ g, (Value.slice ua (dcM c f).1.L.length uc).ownBlock = some g → ¬ g = q6 := fun g hg e => by have := (OL.blk g hg).2; omega
        have hqD : ∀ g, (Value.slice va (dcM c f).1.D.length vc).ownBlock = some g → ¬ g = q6 := fun g hg e => by have := (OD.blk g hg).2; omega
        have GN := gq_later (gq_ne GO (q := q6) (fun k _ hk => by omega) (by simp)) hbA
        refine vh_val 7 (.pointer (some ⟨q6, 0, none⟩)) yb rfl (by kernel_rfl) (want_none rfl) (ex_al rfl (by rw [hyb, hq6]; exact alM _)) rfl hz (by decide) hSA (fun R8 zz kk s6 => ?_)
        replace s1 := ku s1
        replace s2 := ku s2
        replace s5 := ku s5
        replace s11 := ku s11
        replace s12 := ku s12
        replace s13 := ku s13
        replace s14 := ku s14
        replace s10 := ku s10
        replace s15 := ku s15
        replace s16 := ku s16
        replace hz := zz
        clear kk zz
        replace OL := OwnY.grow OL hbA
        replace OD := OwnY.grow OD hbA
        clear hS GO
        have hS := hSA
        clear hSA hyb hbA
        have SP := MB.putU (dcM c f).1.m (.slice ua (dcM c f).1.L.length uc) (.slice va (dcM c f).1.D.length vc)
        have hbP : Below w1.heap.size yb (sets yb q6 0 ((dcM c f).1.m.cs (.slice ua (dcM c f).1.L.length uc) (.slice va (dcM c f).1.D.length vc))) := SP.2.below hS.size hq6w
        refine vh_store 8 (sets yb q6 0 ((dcM c f).1.m.cs (.slice ua (dcM c f).1.L.length uc) (.slice va (dcM c f).1.D.length vc))) rfl (by kernel_rfl) (want_none rfl) (ex_st rfl (ev s6 rfl) (ev s15 rfl) (stM MB (dcM c f).1.m (.slice ua (dcM c f).1.L.length uc) (.slice va (dcM c f).1.D.length vc) rfl rfl)) rfl (hS.trans hbP) ?_
        obtain ⟨zf, hzf⟩ : ∃ y, y = sets yb q6 0 ((dcM c f).1.m.cs (.slice ua (dcM c f).1.L.length uc) (.slice va (dcM c f).1.D.length vc)) := ⟨_, rfl⟩
        rw [← hzf] at SP hbP ⊢
        clear hzf
        have OL2 := OwnY.upd1 OL SP.2 (fun g hg (e : g = q6) => hqL g hg e)
        have OD2 := OwnY.upd1 OD SP.2 (fun g hg (e : g = q6) => hqD g hg e)
        have GO2 := gq_upd GN SP.2 (fun k hk (e : k = q6) => hk e)
        have hS2 := hS.trans hbP
        have MF := SP.1
        clear hS OL OD GN MB SP hbP
        have hS := hS2
        refine vh_take 9 true (.int .i64 (dcM c f).2) rfl (by kernel_rfl) (by kernel_rfl) (by kernel_rfl) (want_none rfl) (fun hc v hv => ex_assign rfl (ev s16 rfl)) rfl hz (by decide) hS (fun R9 zz kk s7 => ?_)
        replace s1 := ku s1
        replace s2 := ku s2
        replace s5 := ku s5
        replace s11 := ku s11
        replace s12 := ku s12
        replace s13 := ku s13
        replace s14 := ku s14
        replace s10 := ku s10
        replace s15 := ku s15
        replace s16 := ku s16
        replace s6 := ku s6
        replace hz := zz
        clear kk zz
        refine vh_done (by kernel_rfl) ?_
        exact ⟨_, rfl, hz, s1, s2, s5, q6, ua, uc, va, vc, s6, s7, MF, OwnY.sl' kE OL2, OwnY.sl' kD OD2, GO2.one, hS⟩
      · intro R10 zz kk s6x
        replace s1 := ku s1
        replace s2 := ku s2
        replace s5 := ku s5
        replace s11 := ku s11
        replace s12 := ku s12
        replace s13 := ku s13
        clear kk hz
        have hz := zz
        have s6 := s6x
        clear zz s6x
        replace HF := Wi.Hs.later HF hbA
        have GO2 := gq_later (gq_ne GO (q := q6) (fun k _ hk => by omega) (by simp)) hbA
        clear GO
        have GO := GO2
        clear GO2 hS
        have hS := hSA
        clear hSA hya
        have hq6l := MB.lt
        refine vh_call 3 rfl (by kernel_rfl) (want_none rfl) (ex_call rfl (by simp only [List.map_toArray, List.map_cons, List.map_nil, (ev s11 rfl), (ev s13 rfl), evc] <;> rfl) rfl) (decode_any c fa n fc f _ HF (by omega) (Tc.later hS Tc.lt)) rfl hz (by decide) ?_
        rintro e y2 ⟨sv, tv, rfl, OL, OD, hb⟩; obtain ⟨ua, uc, hsv, _⟩ := OL.form; obtain ⟨va, vc, htv, _⟩ := OD.form; subst hsv htv
        refine ⟨_, rfl, hS.trans (hb.mono hS.size), fun R11 zz kk s14 => ?_⟩
        replace s1 := ku s1
        replace s2 := ku s2
        replace s5 := ku s5
        replace s11 := ku s11
        replace s12 := ku s12
        replace s13 := ku s13
        replace s6 := ku s6
        replace hz := zz
        clear kk zz
        have hS2 := hS.trans (hb.mono hS.size)
        have GO2 := gq_later GO hb
        clear hS GO
        have hS := hS2
        have GO := GO2
        clear hS2 GO2
        have MB2 := MB.bel hb
        clear MB
        have MB := MB2
        clear MB2 hb
        refine vh_take 4 true (.tuple #[(dcM c f).1.m.val (.slice ua (dcM c f).1.L.length uc) (.slice va (dcM c f).1.D.length vc), .int .i64 (dcM c f).2]) rfl (by kernel_rfl) (by kernel_rfl) (by kernel_rfl) (want_none rfl) (fun hc v hv => ex_move rfl (ev s14 rfl)) rfl hz (by decide) hS (fun R12 zz kk s10 => ?_)
        replace s1 := ku s1
        replace s2 := ku s2
        replace s5 := ku s5
        replace s11 := ku s11
        replace s12 := ku s12
        replace s13 := ku s13
        replace s6 := ku s6
        replace s14 := ku s14
        replace hz := zz
        clear kk zz
        refine vh_take 5 true ((dcM c f).1.m.val (.slice ua (dcM c f).1.L.length uc) (.slice va (dcM c f).1.D.length vc)) rfl (by kernel_rfl) (by kernel_rfl) (by kernel_rfl) (want_none rfl) (fun hc v hv => ex_ext rfl (ev s10 rfl) rfl) rfl hz (by decide) hS (fun R13 zz kk s15 => ?_)
        replace s1 := ku s1
        replace s2 := ku s2
        replace s5 := ku s5
        replace s11 := ku s11
        replace s12 := ku s12
        replace s13 := ku s13
        replace s6 := ku s6
        replace s14 := ku s14
        replace s10 := ku s10
        replace hz := zz
        clear kk zz
        refine vh_take 6 true (.int .i64 (dcM c f).2) rfl (by kernel_rfl) (by kernel_rfl) (by kernel_rfl) (want_none rfl) (fun hc v hv => ex_ext rfl (ev s10 rfl) rfl) rfl hz (by decide) hS (fun R14 zz kk s16 => ?_)
        replace s1 := ku s1
        replace s2 := ku s2
        replace s5 := ku s5
        replace s11 := ku s11
        replace s12 := ku s12
        replace s13 := ku s13
        replace s6 := ku s6
        replace s14 := ku s14
        replace s10 := ku s10
        replace s15 := ku s15
        replace hz := zz
        clear kk zz
        have hqL : ∀ g, (Value.slice ua (dcM c f).1.L.length uc).ownBlock = some g → ¬ g = q6 := fun g hg e => by have := (OL.blk g hg).1; omega
        have hqD : ∀ g, (Value.slice va (dcM c f).1.D.length vc).ownBlock = some g → ¬ g = q6 := fun g hg e => by have := (OD.blk g hg).1; omega
        have GN := GO
        clear GO
        have SP := MB.putU (dcM c f).1.m (.slice ua (dcM c f).1.L.length uc) (.slice va (dcM c f).1.D.length vc)
        have hbP : Below w1.heap.size y2 (sets y2 q6 0 ((dcM c f).1.m.cs (.slice ua (dcM c f).1.L.length uc) (.slice va (dcM c f).1.D.length vc))) := SP.2.below hS.size hq6w
        refine vh_store 8 (sets y2 q6 0 ((dcM c f).1.m.cs (.slice ua (dcM c f).1.L.length uc) (.slice va (dcM c f).1.D.length vc))) rfl (by kernel_rfl) (want_none rfl) (ex_st rfl (ev s6 rfl) (ev s15 rfl) (stM MB (dcM c f).1.m (.slice ua (dcM c f).1.L.length uc) (.slice va (dcM c f).1.D.length vc) rfl rfl)) rfl (hS.trans hbP) ?_
        obtain ⟨zf, hzf⟩ : ∃ y, y = sets y2 q6 0 ((dcM c f).1.m.cs (.slice ua (dcM c f).1.L.length uc) (.slice va (dcM c f).1.D.length vc)) := ⟨_, rfl⟩
        rw [← hzf] at SP hbP ⊢
        clear hzf
        have OL2 := OwnY.upd1 OL SP.2 (fun g hg (e : g = q6) => hqL g hg e)
        have OD2 := OwnY.upd1 OD SP.2 (fun g hg (e : g = q6) => hqD g hg e)
        have GO2 := gq_upd GN SP.2 (fun k hk (e : k = q6) => hk e)
        have hS2 := hS.trans hbP
        have MF := SP.1
        clear hS OL OD GN MB SP hbP
        have hS := hS2
        refine vh_take 9 true (.int .i64 (dcM c f).2) rfl (by kernel_rfl) (by kernel_rfl) (by kernel_rfl) (want_none rfl) (fun hc v hv => ex_assign rfl (ev s16 rfl)) rfl hz (by decide) hS (fun R15 zz kk s7 => ?_)
        replace s1 := ku s1
        replace s2 := ku s2
        replace s5 := ku s5
        replace s11 := ku s11
        replace s12 := ku s12
        replace s13 := ku s13
        replace s6 := ku s6
        replace s14 := ku s14
        replace s10 := ku s10
        replace s15 := ku s15
        replace s16 := ku s16
        replace hz := zz
        clear kk zz
        refine vh_done (by kernel_rfl) ?_
        exact ⟨_, rfl, hz, s1, s2, s5, q6, ua, uc, va, vc, s6, s7, MF, OwnY.sl' kE OL2, OwnY.sl' kD OD2, GO2.one, hS⟩
    · intro R16 zz kk s6x
      replace s1 := ku s1
      replace s2 := ku s2
      replace s5 := ku s5
      replace s11 := ku s11
      replace s12 := ku s12
      clear kk hz
      have hz := zz
      have s6 := s6x
      clear zz s6x
      have hqG : ¬ q6 = w1.heap.size := by have := GW.lt; omega
      have GW2 := GW.later hbA
      clear GW hS
      have GW := GW2
      have hS := hSA
      clear hSA hwa GW2
      have hq6l := MB.lt
      refine vh_call 2 rfl (by kernel_rfl) (want_none rfl) (ex_call rfl (by simp only [List.map_toArray, List.map_cons, List.map_nil, (ev s5 rfl), (ev s12 rfl), evc] <;> rfl) rfl) (Wi.given_newU w1.heap.size a n c_ f _ GW.lt GW.c0 GW.c1 GW.c2 GW.c4 GW.c6 GW.c8 GW.f0 GW.f1 (Wi.Hs.later HH hS) hn) rfl hz (by decide) ?_
      rintro e y1 ⟨fa, fc, rfl, HF, _, GO, hbB, hkB⟩
      refine ⟨_, rfl, hS.trans hbB, fun R17 zz kk s13 => ?_⟩
      replace s1 := ku s1
      replace s2 := ku s2
      replace s5 := ku s5
      replace s11 := ku s11
      replace s12 := ku s12
      replace s6 := ku s6
      replace hz := zz
      clear kk zz
      have MB2 := MB.upd (upd_k9 hbB hkB) hqG
      have hzB := hbB.size
      have GO2 := gq_ne GO (q := q6) (fun k hk _ => by rcases hk with h | h <;> omega) (by simp)
      clear MB GO
      have MB := MB2
      have GO := GO2
      clear MB2 GO2
      have hS2 := hS.trans hbB
      clear hS
      have hS := hS2
      clear hS2
      clear GW hbB hkB
      refine vh_call 3 rfl (by kernel_rfl) (want_none rfl) (ex_call rfl (by simp only [List.map_toArray, List.map_cons, List.map_nil, (ev s11 rfl), (ev s13 rfl), evc] <;> rfl) rfl) (decode_any c fa n fc f _ HF (by omega) (Tc.later hS Tc.lt)) rfl hz (by decide) ?_
      rintro e y2 ⟨sv, tv, rfl, OL, OD, hb⟩; obtain ⟨ua, uc, hsv, _⟩ := OL.form; obtain ⟨va, vc, htv, _⟩ := OD.form; subst hsv htv
      refine ⟨_, rfl, hS.trans (hb.mono hS.size), fun R18 zz kk s14 => ?_⟩
      replace s1 := ku s1
      replace s2 := ku s2
      replace s5 := ku s5
      replace s11 := ku s11
      replace s12 := ku s12
      replace s6 := ku s6
      replace s13 := ku s13
      replace hz := zz
      clear kk zz
      have hS2 := hS.trans (hb.mono hS.size)
      have GO2 := gq_later GO hb
      clear hS GO
      have hS := hS2
      have GO := GO2
      clear hS2 GO2
      have MB2 := MB.bel hb
      clear MB
      have MB := MB2
      clear MB2 hb
      refine vh_take 4 true (.tuple #[(dcM c f).1.m.val (.slice ua (dcM c f).1.L.length uc) (.slice va (dcM c f).1.D.length vc), .int .i64 (dcM c f).2]) rfl (by kernel_rfl) (by kernel_rfl) (by kernel_rfl) (want_none rfl) (fun hc v hv => ex_move rfl (ev s14 rfl)) rfl hz (by decide) hS (fun R19 zz kk s10 => ?_)
      replace s1 := ku s1
      replace s2 := ku s2
      replace s5 := ku s5
      replace s11 := ku s11
      replace s12 := ku s12
      replace s6 := ku s6
      replace s13 := ku s13
      replace s14 := ku s14
      replace hz := zz
      clear kk zz
      refine vh_take 5 true ((dcM c f).1.m.val (.slice ua (dcM c f).1.L.length uc) (.slice va (dcM c f).1.D.length vc)) rfl (by kernel_rfl) (by kernel_rfl) (by kernel_rfl) (want_none rfl) (fun hc v hv => ex_ext rfl (ev s10 rfl) rfl) rfl hz (by decide) hS (fun R20 zz kk s15 => ?_)
      replace s1 := ku s1
      replace s2 := ku s2
      replace s5 := ku s5
      replace s11 := ku s11
      replace s12 := ku s12
      replace s6 := ku s6
      replace s13 := ku s13
      replace s14 := ku s14
      replace s10 := ku s10
      replace hz := zz
      clear kk zz
      refine vh_take 6 true (.int .i64 (dcM c f).2) rfl (by kernel_rfl) (by kernel_rfl) (by kernel_rfl) (want_none rfl) (fun hc v hv => ex_ext rfl (ev s10 rfl) rfl) rfl hz (by decide) hS (fun R21 zz kk s16 => ?_)
      replace s1 := ku s1
      replace s2 := ku s2
      replace s5 := ku s5
      replace s11 := ku s11
      replace s12 := ku s12
      replace s6 := ku s6
      replace s13 := ku s13
      replace s14 := ku s14
      replace s10 := ku s10
      replace s15 := ku s15
      replace hz := zz
      clear kk zz
      have hqL : ∀ g, (Value.slice ua (dcM c f).1.L.length uc).ownBlock = some g → ¬ g = q6 := fun g hg e => by have := (OL.blk g hg).1; omega
      have hqD : ∀ g, (Value.slice va (dcM c f).1.D.length vc).ownBlock = some g → ¬ g = q6 := fun g hg e => by have := (OD.blk g hg).1; omega
      have GN := GO
      clear GO
      have SP := MB.putU (dcM c f).1.m (.slice ua (dcM c f).1.L.length uc) (.slice va (dcM c f).1.D.length vc)
      have hbP : Below w1.heap.size y2 (sets y2 q6 0 ((dcM c f).1.m.cs (.slice ua (dcM c f).1.L.length uc) (.slice va (dcM c f).1.D.length vc))) := SP.2.below hS.size hq6w
      refine vh_store 8 (sets y2 q6 0 ((dcM c f).1.m.cs (.slice ua (dcM c f).1.L.length uc) (.slice va (dcM c f).1.D.length vc))) rfl (by kernel_rfl) (want_none rfl) (ex_st rfl (ev s6 rfl) (ev s15 rfl) (stM MB (dcM c f).1.m (.slice ua (dcM c f).1.L.length uc) (.slice va (dcM c f).1.D.length vc) rfl rfl)) rfl (hS.trans hbP) ?_
      obtain ⟨zf, hzf⟩ : ∃ y, y = sets y2 q6 0 ((dcM c f).1.m.cs (.slice ua (dcM c f).1.L.length uc) (.slice va (dcM c f).1.D.length vc)) := ⟨_, rfl⟩
      rw [← hzf] at SP hbP ⊢
      clear hzf
      have OL2 := OwnY.upd1 OL SP.2 (fun g hg (e : g = q6) => hqL g hg e)
      have OD2 := OwnY.upd1 OD SP.2 (fun g hg (e : g = q6) => hqD g hg e)
      have GO2 := gq_upd GN SP.2 (fun k hk (e : k = q6) => hk e)
      have hS2 := hS.trans hbP
      have MF := SP.1
      clear hS OL OD GN MB SP hbP
      have hS := hS2
      refine vh_take 9 true (.int .i64 (dcM c f).2) rfl (by kernel_rfl) (by kernel_rfl) (by kernel_rfl) (want_none rfl) (fun hc v hv => ex_assign rfl (ev s16 rfl)) rfl hz (by decide) hS (fun R22 zz kk s7 => ?_)
      replace s1 := ku s1
      replace s2 := ku s2
      replace s5 := ku s5
      replace s11 := ku s11
      replace s12 := ku s12
      replace s6 := ku s6
      replace s13 := ku s13
      replace s14 := ku s14
      replace s10 := ku s10
      replace s15 := ku s15
      replace s16 := ku s16
      replace hz := zz
      clear kk zz
      refine vh_done (by kernel_rfl) ?_
      exact ⟨_, rfl, hz, s1, s2, s5, q6, ua, uc, va, vc, s6, s7, MF, OwnY.sl' kE OL2, OwnY.sl' kD OD2, GO2.one, hS⟩
  · clear hz s1 s2 s5 hW G2
    intro T9 z1 hJ
    obtain ⟨hz, s1, s2, s5, q6, ua, uc, va, vc, s6, s7, HI⟩ := hJ
    obtain ⟨M6, hu, hv, GO, hS⟩ := HI.out
    clear HI
    go_upto_region 3 with fail
    refine wp_region_lit ?_
    refine vt (.agg #[.int .i64 c.f, .int .i64 c.r, .int .i64 c.p, .bool c.u]) (ex_ld rfl (ev s2 rfl) (Cc.bel hS).ldAll) hz (fun Yd zz kk s18 => ?_)
    replace s1 := ku s1
    replace s5 := ku s5
    replace s6 := ku s6
    replace s7 := ku s7
    replace hz := zz
    clear kk zz s2
    refine vt _ (ex_move rfl (ev s1 rfl)) hz (fun Ye zz kk s19 => ?_)
    replace s5 := ku s5
    replace s6 := ku s6
    replace s7 := ku s7
    replace s18 := ku s18
    replace hz := zz
    clear kk zz s1 Yd
    refine vcallP (want_none rfl) (ex_call rfl (by simp only [List.map_toArray, List.map_cons, List.map_nil, (ev s18 rfl), (ev s19 rfl), evc] <;> rfl) rfl) (refdecode_sl9 c a n c_ f _ (Wi.Hs.later HH hS) (by omega)) rfl hz (by decide) ?_
    rintro e z2 ⟨pa, pc, ra, rc, rfl, hp, hr, hb⟩
    refine ⟨_, rfl, fun Yf zz kk s20 => ?_⟩
    replace M6 := M6.bel hb
    replace hu := hu.later hb
    replace hv := hv.later hb
    replace GO := GO.later hb
    replace hS := hS.trans (hb.mono hS.size)
    clear hb
    obtain ⟨q8, hq8⟩ : ∃ q, q = z2.heap.size := ⟨_, rfl⟩
    obtain ⟨z3, hz3⟩ : ∃ z, z = z2.alloc (.cells (zG.cs nilS nilS).toArray 38) := ⟨_, rfl⟩
    have hb : Below z2.heap.size z2 z3 := by rw [hz3]; exact (Below.refl _ _).alloc (Nat.le_refl _) _
    have BN : MBox z3 q8 zG nilS nilS := by rw [hz3, hq8]; exact MBox.new0 z2
    replace s5 := ku s5
    replace s6 := ku s6
    replace s7 := ku s7
    replace hz := zz
    clear kk zz s18 s19 Ye
    refine vt _ (ex_move rfl (ev s20 rfl)) hz (fun Yg zz kk s17 => ?_)
    replace s5 := ku s5
    replace s6 := ku s6
    replace s7 := ku s7
    replace hz := zz
    clear kk zz s20 Yf
    refine vt ((dcM c f).1.m.val (.slice pa (dcM c f).1.L.length pc) (.slice ra (dcM c f).1.D.length rc)) (ex_ext rfl (ev s17 rfl) rfl) hz (fun Yh zz kk s21 => ?_)
    replace s5 := ku s5
    replace s6 := ku s6
    replace s7 := ku s7
    replace s17 := ku s17
    replace hz := zz
    clear kk zz Yg
    refine vt (.int .i64 (dcM c f).2) (ex_ext rfl (ev s17 rfl) rfl) hz (fun Yi zz kk s22 => ?_)
    replace s5 := ku s5
    replace s6 := ku s6
    replace s7 := ku s7
    replace s21 := ku s21
    replace hz := zz
    clear kk zz s17 Yh
    refine vw (.pointer (some ⟨q8, 0, none⟩)) z3 (want_none rfl) (ex_al rfl (by rw [hz3, hq8]; exact alM _)) rfl hz (by decide) (fun Yj zz kk s8 => ?_)
    replace s5 := ku s5
    replace s6 := ku s6
    replace s7 := ku s7
    replace s21 := ku s21
    replace s22 := ku s22
    replace hz := zz
    clear kk zz Yi
    refine vs (sets z3 q8 0 ((dcM c f).1.m.cs (.slice pa (dcM c f).1.L.length pc) (.slice ra (dcM c f).1.D.length rc))) (want_none rfl) (ex_st rfl (ev s8 rfl) (ev s21 rfl) (stM BN (dcM c f).1.m (.slice pa (dcM c f).1.L.length pc) (.slice ra (dcM c f).1.D.length rc) rfl rfl)) rfl ?_
    have SP := BN.putU (dcM c f).1.m (.slice pa (dcM c f).1.L.length pc) (.slice ra (dcM c f).1.D.length rc)
    obtain ⟨z4, hz4⟩ : ∃ z, z = sets z3 q8 0 ((dcM c f).1.m.cs (.slice pa (dcM c f).1.L.length pc) (.slice ra (dcM c f).1.D.length rc)) := ⟨_, rfl⟩
    rw [← hz4] at SP ⊢
    clear hz4 hz3
    replace hb := hb.trans (SP.2.below hb.size (by omega))
    have M8 := SP.1
    clear SP BN
    replace M6 := M6.bel hb
    replace hu := hu.later hb
    replace hv := hv.later hb
    replace GO := GO.later hb
    replace hS := hS.trans (hb.mono hS.size)
    replace hp := hp.later hb
    replace hr := hr.later hb
    clear hb
    refine vt _ (ex_assign rfl (ev s22 rfl)) hz (fun Yk zz kk s9 => ?_)
    replace s5 := ku s5
    replace s6 := ku s6
    replace s7 := ku s7
    replace s8 := ku s8
    replace hz := zz
    clear kk zz s21 s22 Yj
    refine wpList_nil ?_
    go_upto_region 4 with fail
    refine wp_region_lit ?_
    refine vt _ (ex_move rfl (ev s7 rfl)) hz (fun Yl zz kk s23 => ?_)
    replace s5 := ku s5
    replace s6 := ku s6
    replace s8 := ku s8
    replace s9 := ku s9
    replace hz := zz
    clear kk zz s7
    refine vcallP (want_none rfl) (ex_call rfl (by simp only [List.map_toArray, List.map_cons, List.map_nil, (ev s23 rfl), evc] <;> rfl) rfl) (num7_any (dcM c f).2 _) rfl hz (by decide) ?_
    rintro e y_ ⟨rfl, hy_⟩; rw [hy_]; clear hy_ y_
    refine ⟨_, rfl, fun Ym zz kk s24 => ?_⟩
    replace s5 := ku s5
    replace s6 := ku s6
    replace s8 := ku s8
    replace s9 := ku s9
    replace hz := zz
    clear kk zz s23 Yl
    refine vt _ (ex_move rfl (ev s9 rfl)) hz (fun Yn zz kk s25 => ?_)
    replace s5 := ku s5
    replace s6 := ku s6
    replace s8 := ku s8
    replace s24 := ku s24
    replace hz := zz
    clear kk zz s9 Ym
    refine vt (.bool true) (ex_bin rfl (ev s24 rfl) (ev s25 rfl) (eqSelf9 _ _ _ _)) hz (fun Yo zz kk s26 => ?_)
    replace s5 := ku s5
    replace s6 := ku s6
    replace s8 := ku s8
    replace hz := zz
    clear kk zz s24 s25 Yn
    refine vt _ (ex_move rfl (ev s26 rfl)) hz (fun Yp zz kk s27 => ?_)
    replace s5 := ku s5
    replace s6 := ku s6
    replace s8 := ku s8
    replace hz := zz
    clear kk zz s26 Yo
    refine vl true ((dcM c f).1.m.val (.slice ua (dcM c f).1.L.length uc) (.slice va (dcM c f).1.D.length vc)) (want_k rfl rfl s27) (fun hc => ex_ld rfl (ev s6 rfl) M6.ldAll) rfl hz (by decide) (fun Yq zz kk s28 => ?_)
    replace s5 := ku s5
    replace s8 := ku s8
    replace s27 := ku s27
    replace hz := zz
    clear kk zz s6 Yp
    refine vl true ((dcM c f).1.m.val (.slice pa (dcM c f).1.L.length pc) (.slice ra (dcM c f).1.D.length rc)) (want_k rfl rfl s27) (fun hc => ex_ld rfl (ev s8 rfl) M8.ldAll) rfl hz (by decide) (fun Yr zz kk s29 => ?_)
    replace s5 := ku s5
    replace s27 := ku s27
    replace s28 := ku s28
    replace hz := zz
    clear kk zz s8 Yq
    refine vcallP (want_k rfl rfl s27) (ex_call rfl (by simp only [List.map_toArray, List.map_cons, List.map_nil, (ev s28 rfl), (ev s29 rfl), evc] <;> rfl) rfl) (samemsg_eq9 (dcM c f).1.m ua va uc vc pa ra pc rc (dcM c f).1.L (dcM c f).1.D _ hu hv hp hr) rfl hz (by decide) ?_
    rintro e z5 ⟨rfl, hb⟩
    refine ⟨_, rfl, fun Ys zz kk s30 => ?_⟩
    replace M6 := M6.bel hb
    replace hu := hu.later hb
    replace hv := hv.later hb
    replace GO := GO.later hb
    replace hS := hS.trans (hb.mono hS.size)
    replace hp := hp.later hb
    replace hr := hr.later hb
    replace M8 := M8.bel hb
    clear hb
    replace s5 := ku s5
    replace s27 := ku s27
    replace hz := zz
    clear kk zz s28 s29 Yr
    refine vt (.bool true) (ex_and rfl s27 s30 rfl) hz (fun Yt zz kk s31 => ?_)
    replace s5 := ku s5
    replace hz := zz
    clear kk zz s27 s30 Ys
    refine vt _ (ex_move rfl (ev s31 rfl)) hz (fun Yu zz kk s32 => ?_)
    replace s5 := ku s5
    replace hz := zz
    clear kk zz s31 Yt
    refine vcallP (want_k rfl rfl s32) (ex_call rfl (by simp only [List.map_toArray, List.map_cons, List.map_nil, (ev s5 rfl), evc] <;> rfl) rfl) (Wi.intact_one w1.heap.size (f ++ [90]) _ GO) rfl hz (by decide) ?_
    rintro e z6 ⟨rfl, hb⟩
    refine ⟨_, rfl, fun Yv zz kk s33 => ?_⟩
    replace M6 := M6.bel hb
    replace hu := hu.later hb
    replace hv := hv.later hb
    replace GO := GO.later hb
    replace hS := hS.trans (hb.mono hS.size)
    replace hp := hp.later hb
    replace hr := hr.later hb
    replace M8 := M8.bel hb
    clear hb
    replace s32 := ku s32
    replace hz := zz
    clear kk zz s5 Yu
    refine vt (.bool true) (ex_and rfl s32 s33 rfl) hz (fun Yw zz kk s34 => ?_)
    replace hz := zz
    clear kk zz s32 s33 Yv
    refine vt _ (ex_move rfl (ev s34 rfl)) hz (fun Yx zz kk s35 => ?_)
    replace hz := zz
    clear kk zz s34 Yw
    refine vcallP (want_k rfl rfl s35) (ex_call (args := #[]) rfl (by simp) rfl) (alive7 _ (Tc.later hS Tc.lt)) rfl hz (by decide) ?_
    rintro e z7 ⟨rfl, hb⟩
    refine ⟨_, rfl, fun Yy zz kk s36 => ?_⟩
    replace M6 := M6.bel hb
    replace hu := hu.later hb
    replace hv := hv.later hb
    replace GO := GO.later hb
    replace hS := hS.trans (hb.mono hS.size)
    replace hp := hp.later hb
    replace hr := hr.later hb
    replace M8 := M8.bel hb
    clear hb
    replace s35 := ku s35
    replace hz := zz
    clear kk zz Yx
    refine vt (.bool true) (ex_and rfl s35 s36 rfl) hz (fun Yz zz kk s37 => ?_)
    replace hz := zz
    clear kk zz s35 s36 Yy
    refine vt _ (ex_assign rfl (ev s37 rfl)) hz (fun Y0 zz kk s4 => ?_)
    replace hz := zz
    clear kk zz s37 Yz
    refine wpList_nil ?_
    have hfin : Below w.heap.size w z7 := hB.trans (hS.mono (by omega))
    go_wp2
    refine bodyPost_ret (results_tmp rfl _ _ _) rfl ⟨?_, hfin⟩
    rw [getD_of s4]
    rfl
theorem decodes_came7 (c : Cf) (a3 : Option Addr) (n3 c3 : Nat) (w : World) (hf : CameBy w a3 n3 c3) (hT : Tab w) :
    Calls Tryz.prog 5 #[c.val, .slice a3 n3 c3] w fun e w' => e = .returned (.bool true) ∧ Below w.heap.size w w' := by
  obtain ⟨f, hF, hby, hn⟩ := hf
  exact law_decodes7 c a3 n3 c3 f w hT (hF.hs hby) hn
end Go.Proofs.YtibedokegignhaaGreatDoor
