import Derived.Test.YtibedokegignhaaGreatDoorRows
import Derived.Lib.LaidTab
import Derived.MakeChecks
import Derived.ChangeOld
import Derived.ProofKit
import Derived.OpenShut
import Derived.Deep.SlicePairs
import Derived.SizedLaws
import Derived.Test.YtibedokegignhaaGreatDoorF5c
set_option maxRecDepth 100000
set_option linter.unusedVariables false
set_option linter.unusedSimpArgs false
namespace Go.Proofs.YtibedokegignhaaGreatDoor
open Go.RowKit Go.Maps
open Classical
theorem vh_twoR {ops : Array Oper} {o o2 : Oper} {T : Array Value} {df : List Deferred} {w : World} {Q : Exit → Act → World → Prop} {S : World → Prop} {fuel d d2 n : Nat} {listed : Array Bool} (j i : Nat) {fid : FuncId} {args : Array Value} {R : Ending → World → Prop} (hr : Region.ready .any ops listed = [j, i]) (hi : ops[i]? = some o) (hj : ops[j]? = some o2)
    (hw : Region.wanted o (yielded ops T) = true) (he : (execOp (⟨T, df⟩ : Act).eval o).run Tryz.prog w = .ok (.enter fid args) w) (hc : Calls Tryz.prog fid args w R) (hd : o.dst = some d) (hz : T.size = n) (hn : d < n)
    (hk : ∀ (e : Ending) (w' : World), R e w' → ∃ V, e = .returned V ∧ S w' ∧ ∀ T' : Array Value, T'.size = n → (∀ j, j ≠ d → T'[j]? = T[j]?) → T'[d]? = some (gw true V) → VH ops Q S fuel (listed.setIfInBounds i true) ⟨T', df⟩ w')
    (V : Value) (w2 : World) (hw2 : Region.wanted o2 (yielded ops T) = true) (he2 : (execOp (⟨T, df⟩ : Act).eval o2).run Tryz.prog w = .ok (.value V) w2) (hd2 : o2.dst = some d2) (hn2 : d2 < n) (hS2 : S w2)
    (hk2 : ∀ T' : Array Value, T'.size = n → (∀ j, j ≠ d2 → T'[j]? = T[j]?) → T'[d2]? = some (gw true V) → VH ops Q S fuel (listed.setIfInBounds j true) ⟨T', df⟩ w2) : VH ops Q S (fuel + 1) listed ⟨T, df⟩ w := by
  refine ⟨wpAnyH_all hr (by simp) (fun k hkm => ?_)⟩
  have hkm : k = j ∨ k = i := by simpa using hkm
  rcases hkm with rfl | rfl
  · unfold wpOp
    rw [hj]
    simp only [hw2, if_true]
    refine .inl ?_
    unfold Oper.wp
    rw [he2, Oper.upon_value]
    refine ⟨hS2, ?_⟩
    rw [hd2]
    exact (hk2 (T.setIfInBounds d2 V) (by simp [hz]) (fun i hi => at_set_ne _ hi) (at_set _ (by omega))).out
  · unfold wpOp
    rw [hi]
    simp only [hw, if_true]
    refine .inl ?_
    unfold Oper.wp
    rw [he, Oper.upon_enter]
    refine hc.mono ?_
    intro e w' hR
    obtain ⟨V, rfl, hS, hk'⟩ := hk e w' hR
    refine ⟨hS, ?_⟩
    rw [hd]
    exact (hk' (T.setIfInBounds d V) (by simp [hz]) (fun i hi => at_set_ne _ hi) (at_set _ (by omega))).out
theorem QD.ldErr9 {N : Nat} {w w' : World} {b q : Nat} {l : List Int} {s : Nat × Int} (h : QD N w b l s) (u : UB q w w') (hq : ¬ b = q) : (Instr.loadAt 3 (.pointer (some ⟨b, 2, none⟩))).run Tryz.prog w' = .ok (.int .i64 s.2) w' := by
  obtain ⟨a, n, c, k, _⟩ := h
  have h2 := (u.cell (p := ⟨b, 2, none⟩) k.lt hq).trans k.c2
  clear k
  go_simp
theorem rcL (l : List Int) (k : Nat) (x : Rst) (h : x.L = []) : ∀ j, j ≤ 8 → (rCols l k x j).L = []
  | 0, _ => h
  | j + 1, hj => by
    have ih := rcL l k x h j (by omega)
    by_cases ht : tabA k j = 0
    · rw [rCols_none ht]; exact ih
    · rw [rCols_some ht]
      generalize rCols l k x j = y at *
      have : j = 0 ∨ j = 1 ∨ j = 2 ∨ j = 3 ∨ j = 4 ∨ j = 5 ∨ j = 6 ∨ j = 7 := by omega
      rcases this with rfl | rfl | rfl | rfl | rfl | rfl | rfl | rfl
      all_goals first | exact ih | (rw [rCol6]; exact ih)
theorem rcD (l : List Int) (k : Nat) (x : Rst) (h : x.D = []) : ∀ j, j ≤ 9 → (rCols l k x j).D = []
  | 0, _ => h
  | j + 1, hj => by
    have ih := rcD l k x h j (by omega)
    by_cases ht : tabA k j = 0
    · rw [rCols_none ht]; exact ih
    · rw [rCols_some ht]
      generalize rCols l k x j = y at *
      have : j = 0 ∨ j = 1 ∨ j = 2 ∨ j = 3 ∨ j = 4 ∨ j = 5 ∨ j = 6 ∨ j = 7 ∨ j = 8 := by omega
      rcases this with rfl | rfl | rfl | rfl | rfl | rfl | rfl | rfl | rfl
      all_goals first | exact ih | (rw [rCol6]; exact ih)
theorem gupd9 {w w' : World} {row : Option Nat} (h : w.grownBy w' row) : Upd (fun k => row = some k) w w' :=
  ⟨h.os, h.tape, h.output, h.size, fun k hk hs => h.block k hk (fun e => hs e.symm)⟩
theorem apart9 {α β : Type} {Y : Lay α} {Y' : Lay β} {B B' : Nat} {w : World} {v v' : Value} {l : List α} {l' : List β} (h : OwnY Y B w v l) (h' : OwnY Y' B' w v' l') (hT : Y.T ≠ Y'.T) : ∀ g, v.ownBlock = some g → v'.ownBlock = some g → False := fun g h1 h2 => OwnY.apart h h' hT g h1 h2
theorem CfB.upd9 {S : Nat → Prop} {w w' : World} {q : Nat} {c : Cf} (h : CfB w q c) (u : Upd S w w') (hs : ¬ S q) : CfB w' q c := ⟨Nat.lt_of_lt_of_le h.lt u.size, fun i x hx => (u.cell (p := ⟨q, i, none⟩) h.lt hs).trans (h.cell i x hx)⟩
theorem vh_pair {ops : Array Oper} {o o2 : Oper} {T : Array Value} {df : List Deferred} {w : World} {Q : Exit → Act → World → Prop} {S : World → Prop} {fuel d d2 n : Nat} {listed : Array Bool} (j i : Nat) (hr : Region.ready .any ops listed = [j, i]) (hj : ops[j]? = some o2) (hi : ops[i]? = some o) (hz : T.size = n)
    (V : Value) (hw2 : Region.wanted o2 (yielded ops T) = true) (he2 : (execOp (⟨T, df⟩ : Act).eval o2).run Tryz.prog w = .ok (.value V) w) (hd2 : o2.dst = some d2) (hn2 : d2 < n) (hS2 : S w)
    (U : Value) (w1 : World) (hw : Region.wanted o (yielded ops T) = true) (he : (execOp (⟨T, df⟩ : Act).eval o).run Tryz.prog w = .ok (.value U) w1) (hd : o.dst = some d) (hn : d < n) (hS : S w1)
    (hk2 : ∀ T' : Array Value, T'.size = n → (∀ j, j ≠ d2 → T'[j]? = T[j]?) → T'[d2]? = some (gw true V) → VH ops Q S fuel (listed.setIfInBounds j true) ⟨T', df⟩ w)
    (hk : ∀ T' : Array Value, T'.size = n → (∀ j, j ≠ d → T'[j]? = T[j]?) → T'[d]? = some (gw true U) → VH ops Q S fuel (listed.setIfInBounds i true) ⟨T', df⟩ w1) : VH ops Q S (fuel + 1) listed ⟨T, df⟩ w := by
  refine ⟨wpAnyH_all hr (by simp) (fun k hkm => ?_)⟩
  have hkm : k = j ∨ k = i := by simpa using hkm
  rcases hkm with rfl | rfl
  · unfold wpOp
    rw [hj]
    simp only [hw2, if_true]
    refine .inl ?_
    unfold Oper.wp
    rw [he2, Oper.upon_value]
    refine ⟨hS2, ?_⟩
    rw [hd2]
    exact (hk2 (T.setIfInBounds d2 V) (by simp [hz]) (fun i hi => at_set_ne _ hi) (at_set _ (by omega))).out
  · unfold wpOp
    rw [hi]
    simp only [hw, if_true]
    refine .inl ?_
    unfold Oper.wp
    rw [he, Oper.upon_value]
    refine ⟨hS, ?_⟩
    rw [hd]
    exact (hk (T.setIfInBounds d U) (by simp [hz]) (fun i hi => at_set_ne _ hi) (at_set _ (by omega))).out
set_option maxHeartbeats 16000000 in
theorem refdecode7 (c : Cf) (a : Option Addr) (n c_ : Nat) (f : List Int) (w : World) (hH : Wi.Hs w a n c_ f) (hm : n ≤ 140737488355328) :
    Calls Tryz.prog 21 #[c.val, .slice a n c_] w fun e w' => ∃ s t, e = .returned (.tuple #[(dcM c f).1.m.val s t, .int .i64 (dcM c f).2]) ∧ OwnY yE w.heap.size w' s (dcM c f).1.L ∧ OwnY yD w.heap.size w' t (dcM c f).1.D ∧ Below w.heap.size w w' := by
  have hby := op_byte hH.byte
  go_enter Tryz.func21, Tryz.ntmps21
  go_upto_region 0 with fail
  refine wp_region_lit ?_
  refine vl_gen (fun T => T.size = 169 ∧ T[0]? = some (gw true (.agg #[.int .i64 c.f, .int .i64 c.r, .int .i64 c.p, .bool c.u])) ∧ T[1]? = some (gw true (.slice a n c_))) ⟨rfl, rfl, rfl⟩ (fun Z0 ⟨hz, s0, s1⟩ => ?_)
  obtain ⟨w0, hw0⟩ : ∃ y, y = w.alloc (.cells #[.int .i64 c.f, .int .i64 c.r, .int .i64 c.p, .bool c.u] 23) := ⟨_, rfl⟩
  have hs0 : w0.heap.size = w.heap.size + 1 := by rw [hw0]; simp
  have hB0 : Below w.heap.size w w0 := by rw [hw0]; exact (Below.refl _ _).alloc (Nat.le_refl _) _
  have Cc0 : CfB w0 w.heap.size c := ⟨by omega, fun i x hx => by rw [hw0]; exact cell_box _ _ _ _ _ (by simpa using hx)⟩
  obtain ⟨w1, hw1⟩ : ∃ y, y = w0.alloc (.cells (zG.cs nilS nilS).toArray 38) := ⟨_, rfl⟩
  have hb : Below w0.heap.size w0 w1 := by rw [hw1]; exact (Below.refl _ _).alloc (Nat.le_refl _) _
  have hs1 : w1.heap.size = w.heap.size + 2 := by rw [hw1]; simp; omega
  have M0 : MBox w1 (w.heap.size + 1) zG nilS nilS := by rw [hw1, ← hs0]; exact MBox.new0 w0
  have hB : Below w.heap.size w w1 := hB0.trans (hb.mono hB0.size)
  have Cc := Cc0.bel hb
  refine vw (.pointer (some ⟨w.heap.size, 0, none⟩)) w0 (want_none rfl) (ex_box rfl (ev s0 rfl) (by rw [hw0]; exact bxCf _ _ _ _ _)) rfl hz (by decide) (fun Ya zz kk s2 => ?_)
  replace s1 := ku s1
  replace hz := zz
  clear kk zz s0
  refine vw (.pointer (some ⟨(w.heap.size + 1), 0, none⟩)) w1 (want_none rfl) (ex_al rfl (by rw [hw1, ← hs0]; exact alM _)) rfl hz (by decide) (fun Yb zz kk s4 => ?_)
  replace s1 := ku s1
  replace s2 := ku s2
  replace hz := zz
  clear kk zz Ya
  refine vt (.int .i64 0) (ex_assign rfl rfl) hz (fun Yc zz kk s5 => ?_)
  replace s1 := ku s1
  replace s2 := ku s2
  replace s4 := ku s4
  replace hz := zz
  clear kk zz Yb
  refine wpList_nil ?_
  clear hw0 hw1 Cc0 hB0 hb
  have HH := Wi.Hs.later hH hB
  clear hs0
  go_upto_region 1 with fail
  refine wp_region_lit ?_
  refine vt (.agg #[.int .i64 c.f, .int .i64 c.r, .int .i64 c.p, .bool c.u]) (ex_ld rfl (ev s2 rfl) Cc.ldAll) hz (fun Yd zz kk s18 => ?_)
  replace s1 := ku s1
  replace s2 := ku s2
  replace s4 := ku s4
  replace hz := zz
  clear kk zz s5
  refine vcallP (want_none rfl) (ex_call rfl (by simp only [List.map_toArray, List.map_cons, List.map_nil, (ev s18 rfl), evc] <;> rfl) rfl) (refConfig7 c w1) rfl hz (by decide) ?_
  rintro e y1 ⟨rfl, hb⟩; have hz1 := hb.size
  refine ⟨_, rfl, fun Ye zz kk s19 => ?_⟩
  replace Cc := Cc.bel hb
  replace M0 := M0.bel hb
  replace hB := hB.trans (hb.mono hB.size)
  replace HH := HH.later hb
  clear hb
  replace s1 := ku s1
  replace s2 := ku s2
  replace s4 := ku s4
  replace hz := zz
  clear kk zz s18 Yd
  refine vt (.bool (!(cfB c))) (ex_not rfl (ev s19 rfl)) hz (fun Yf zz kk s20 => ?_)
  replace s1 := ku s1
  replace s2 := ku s2
  replace s4 := ku s4
  replace hz := zz
  clear kk zz s19 Ye
  refine wpList_nil ?_
  go_upto_region 3 with fail
  cases hcf : cfB c
  · rw [hcf] at s20
    refine wp_cond_true ((ev s20 rfl).trans rfl) ?_
    clear s20
    have VV : dcM c f = (⟨zG, [], [], (0, 0)⟩, 1) := by unfold dcM; rw [if_pos hcf]
    go_upto_region 2 with fail
    refine wp_region_lit ?_
    refine vt (zG.val nilS nilS) (ex_build rfl (bdM0 _)) hz (fun Yg zz kk s21 => ?_)
    replace s4 := ku s4
    replace hz := zz
    clear kk zz s1 s2
    refine vs (sets y1 (w.heap.size + 1) 0 (zG.cs nilS nilS)) (want_none rfl) (ex_st rfl (ev s4 rfl) (ev s21 rfl) (stM M0 zG nilS nilS rfl rfl)) rfl ?_
    have SPz := M0.putU zG nilS nilS
    obtain ⟨v1, hv1⟩ : ∃ y, y = sets y1 (w.heap.size + 1) 0 (zG.cs nilS nilS) := ⟨_, rfl⟩
    rw [← hv1] at SPz ⊢
    clear hv1
    refine vt (.int .i64 1) (ex_assign rfl rfl) hz (fun Yh zz kk s5 => ?_)
    replace s4 := ku s4
    replace hz := zz
    clear kk zz s21 Yg
    refine wpList_nil ?_
    have hfin : Below w.heap.size w v1 := hB.trans (SPz.2.below hB.size (by omega))
    go_wp2
    refine bodyPost_msg rfl s4 s5 SPz.1 ?_
    rw [VV]
    exact ⟨_, _, rfl, OwnY.nil _ _ _, OwnY.nil _ _ _, hfin⟩
  rw [hcf] at s20
  refine wp_cond_false ((ev s20 rfl).trans rfl) ?_
  clear s20
  go_upto_region 3 with fail
  refine wp_region_lit ?_
  refine vt _ (ex_move rfl (ev s1 rfl)) hz (fun Yi zz kk s23 => ?_)
  replace s2 := ku s2
  replace s4 := ku s4
  replace hz := zz
  clear kk zz s1
  refine vcallP (want_none rfl) (ex_call rfl (by simp only [List.map_toArray, List.map_cons, List.map_nil, (ev s23 rfl), evc] <;> rfl) rfl) (Wi.ro_any a n c_ f y1 HH) rfl hz (by decide) ?_
  rintro e y2 ⟨vb, rfl, OB, hb⟩; have hz2 := hb.size; obtain ⟨ba, bn, bc, hvb, hsB, _⟩ := Wi.Own.hs OB hby; subst hvb
  refine ⟨_, rfl, fun Yj zz kk s24 => ?_⟩
  replace Cc := Cc.bel hb
  replace M0 := M0.bel hb
  replace hB := hB.trans (hb.mono hB.size)
  clear hb
  replace s2 := ku s2
  replace s4 := ku s4
  replace hz := zz
  clear kk zz s23 Yi
  refine vt _ (ex_move rfl (ev s24 rfl)) hz (fun Yk zz kk s22 => ?_)
  replace s2 := ku s2
  replace s4 := ku s4
  replace hz := zz
  clear kk zz s24 Yj
  refine vt (.slice ba bn bc) (ex_ext rfl (ev s22 rfl) rfl) hz (fun Yl zz kk s25 => ?_)
  replace s2 := ku s2
  replace s4 := ku s4
  replace s22 := ku s22
  replace hz := zz
  clear kk zz Yk
  refine vt (.int .i64 (Wi.opErr f)) (ex_ext rfl (ev s22 rfl) rfl) hz (fun Ym zz kk s26 => ?_)
  replace s2 := ku s2
  replace s4 := ku s4
  replace s25 := ku s25
  replace hz := zz
  clear kk zz s22 Yl
  refine vt _ (ex_assign rfl (ev s25 rfl)) hz (fun Yn zz kk s6 => ?_)
  replace s2 := ku s2
  replace s4 := ku s4
  replace s26 := ku s26
  replace hz := zz
  clear kk zz s25 Ym
  refine vt _ (ex_assign rfl (ev s26 rfl)) hz (fun Yo zz kk s7 => ?_)
  replace s2 := ku s2
  replace s4 := ku s4
  replace s6 := ku s6
  replace hz := zz
  clear kk zz s26 Yn
  refine wpList_nil ?_
  go_upto_region 4 with fail
  refine wp_region_lit ?_
  refine vt _ (ex_move rfl (ev s7 rfl)) hz (fun Yp zz kk s27 => ?_)
  replace s2 := ku s2
  replace s4 := ku s4
  replace s6 := ku s6
  replace s7 := ku s7
  replace hz := zz
  clear kk zz
  refine vt (.bool (!decide ((Wi.opErr f) = 0))) (ex_bin rfl (ev s27 rfl) rfl (neqC _ _ _ _ _)) hz (fun Yq zz kk s28 => ?_)
  replace s2 := ku s2
  replace s4 := ku s4
  replace s6 := ku s6
  replace s7 := ku s7
  replace hz := zz
  clear kk zz s27 Yp
  refine wpList_nil ?_
  go_upto_region 6 with fail
  cases hop : !decide (Wi.opErr f = 0)
  rotate_left
  · rw [hop] at s28
    refine wp_cond_true ((ev s28 rfl).trans rfl) ?_
    clear s28
    have hne : ¬ Wi.opErr f = 0 := by simpa using hop
    have VV : dcM c f = (⟨zG, [], [], (0, 0)⟩, Wi.opErr f) := by unfold dcM; rw [if_neg (by simp [hcf]), if_pos hne]
    go_upto_region 5 with fail
    refine wp_region_lit ?_
    refine vt (zG.val nilS nilS) (ex_build rfl (bdM0 _)) hz (fun Yr zz kk s29 => ?_)
    replace s4 := ku s4
    replace s7 := ku s7
    replace hz := zz
    clear kk zz s2 s6
    refine vt _ (ex_move rfl (ev s7 rfl)) hz (fun Ys zz kk s30 => ?_)
    replace s4 := ku s4
    replace s29 := ku s29
    replace hz := zz
    clear kk zz s7 Yr
    refine vs (sets y2 (w.heap.size + 1) 0 (zG.cs nilS nilS)) (want_none rfl) (ex_st rfl (ev s4 rfl) (ev s29 rfl) (stM M0 zG nilS nilS rfl rfl)) rfl ?_
    have SPz := M0.putU zG nilS nilS
    obtain ⟨v1, hv1⟩ : ∃ y, y = sets y2 (w.heap.size + 1) 0 (zG.cs nilS nilS) := ⟨_, rfl⟩
    rw [← hv1] at SPz ⊢
    clear hv1
    refine vt _ (ex_assign rfl (ev s30 rfl)) hz (fun Yt zz kk s5 => ?_)
    replace s4 := ku s4
    replace hz := zz
    clear kk zz s29 s30 Ys
    refine wpList_nil ?_
    have hfin : Below w.heap.size w v1 := hB.trans (SPz.2.below hB.size (by omega))
    go_wp2
    refine bodyPost_msg rfl s4 s5 SPz.1 ?_
    rw [VV]
    exact ⟨_, _, rfl, OwnY.nil _ _ _, OwnY.nil _ _ _, hfin⟩
  rw [hop] at s28
  refine wp_cond_false ((ev s28 rfl).trans rfl) ?_
  clear s28
  have hop0 : Wi.opErr f = 0 := by simpa using hop
  clear hop
  clear s7
  obtain ⟨b, hbq⟩ : ∃ b, b = y2.heap.size := ⟨_, rfl⟩
  obtain ⟨l, hl⟩ : ∃ l, l = Wi.opBody f := ⟨_, rfl⟩
  obtain ⟨y3, hy3⟩ : ∃ y, y = y2.alloc (.cells #[.slice ba bn bc, .int .i64 0, .int .i64 0] 122) := ⟨_, rfl⟩
  have Q3 : QD (b + 1) y3 b l (0, 0) := by rw [hy3, hbq, hl]; exact QD.new OB hby (by have := op_len f; have := hH.len; omega)
  have hb : Below y2.heap.size y2 y3 := by rw [hy3]; exact (Below.refl _ _).alloc (Nat.le_refl _) _
  have hz3 : y3.heap.size = b + 1 := by rw [hy3, hbq]; simp
  have hbz : w.heap.size + 2 ≤ b := by omega
  go_upto_region 6 with fail
  refine wp_region_lit ?_
  refine vt _ (ex_move rfl (ev s6 rfl)) hz (fun Yu zz kk s31 => ?_)
  replace s2 := ku s2
  replace s4 := ku s4
  replace hz := zz
  clear kk zz s6
  refine vt (.agg #[.slice ba bn bc, .int .i64 0, .int .i64 0]) (ex_buildP rfl (by simp only [List.map_toArray, List.map_cons, List.map_nil, (ev s31 rfl)] <;> rfl) (bdQ _ _ _ _)) hz (fun Yv zz kk s32 => ?_)
  replace s2 := ku s2
  replace s4 := ku s4
  replace hz := zz
  clear kk zz s31 Yu
  refine vw (.pointer (some ⟨b, 0, none⟩)) y3 (want_none rfl) (ex_box rfl (ev s32 rfl) (by rw [hy3, hbq]; exact bxQ _ _ _ _)) rfl hz (by decide) (fun Yw zz kk s33 => ?_)
  replace Cc := Cc.bel hb
  replace M0 := M0.bel hb
  replace hB := hB.trans (hb.mono hB.size)
  clear hb
  replace s2 := ku s2
  replace s4 := ku s4
  replace hz := zz
  clear kk zz s32 Yv
  refine vt _ (ex_assign rfl (ev s33 rfl)) hz (fun Yx zz kk s8 => ?_)
  replace s2 := ku s2
  replace s4 := ku s4
  replace hz := zz
  clear kk zz s33 Yw
  refine wpList_nil ?_
  clear hy3 OB hsB hbq
  go_upto_region 7 with fail
  refine wp_region_lit ?_
  refine vt _ (ex_move rfl (ev s8 rfl)) hz (fun Yy zz kk s34 => ?_)
  replace s2 := ku s2
  replace s4 := ku s4
  replace s8 := ku s8
  replace hz := zz
  clear kk zz
  refine vcallP (want_none rfl) (ex_call rfl (by simp only [List.map_toArray, List.map_cons, List.map_nil, (ev s34 rfl), evc] <;> rfl) rfl) (qd_I (b + 1) b mxI (Int.le_refl _) l (0, 0) y3 Q3) rfl hz (by decide) ?_
  rintro e y4 ⟨rfl, Q4, hu4⟩; have hz4 := hu4.size
  refine ⟨_, rfl, fun Yz zz kk s35 => ?_⟩
  replace Cc := Cc.upd9 hu4 (by omega)
  replace M0 := M0.upd hu4 (by omega)
  replace hB := hB.trans (hu4.below hB.size (by omega))
  clear hu4 Q3
  replace s2 := ku s2
  replace s4 := ku s4
  replace s8 := ku s8
  replace hz := zz
  clear kk zz s34 Yy
  refine vt _ (ex_assign rfl (ev s35 rfl)) hz (fun Y0 zz kk s9 => ?_)
  replace s2 := ku s2
  replace s4 := ku s4
  replace s8 := ku s8
  replace hz := zz
  clear kk zz s35 Yz
  refine wpList_nil ?_
  go_upto_region 8 with fail
  refine wp_region_lit ?_
  refine vt _ (ex_move rfl (ev s8 rfl)) hz (fun Y1 zz kk s36 => ?_)
  replace s2 := ku s2
  replace s4 := ku s4
  replace s8 := ku s8
  replace s9 := ku s9
  replace hz := zz
  clear kk zz
  refine vt (.pointer (some ⟨b, 0, none⟩)) (ex_nil rfl (ev s36 rfl)) hz (fun Y2 zz kk s37 => ?_)
  replace s2 := ku s2
  replace s4 := ku s4
  replace s8 := ku s8
  replace s9 := ku s9
  replace hz := zz
  clear kk zz s36 Y1
  refine vt (.pointer (some ⟨b, 2, none⟩)) (ex_fa rfl (ev s37 rfl) (faErr _ _)) hz (fun Y3 zz kk s38 => ?_)
  replace s2 := ku s2
  replace s4 := ku s4
  replace s8 := ku s8
  replace s9 := ku s9
  replace hz := zz
  clear kk zz s37 Y2
  refine vt (.int .i64 (sI mxI l (0, 0)).2) (ex_ld rfl (ev s38 rfl) Q4.ldErr) hz (fun Y4 zz kk s39 => ?_)
  replace s2 := ku s2
  replace s4 := ku s4
  replace s8 := ku s8
  replace s9 := ku s9
  replace hz := zz
  clear kk zz s38 Y3
  refine vt (.bool (!decide ((sI mxI l (0, 0)).2 = 0))) (ex_bin rfl (ev s39 rfl) rfl (neqC _ _ _ _ _)) hz (fun Y5 zz kk s40 => ?_)
  replace s2 := ku s2
  replace s4 := ku s4
  replace s8 := ku s8
  replace s9 := ku s9
  replace hz := zz
  clear kk zz s39 Y4
  refine wpList_nil ?_
  go_upto_region 10 with fail
  cases hse : !decide ((sI mxI l (0, 0)).2 = 0)
  rotate_left
  · rw [hse] at s40
    refine wp_cond_true ((ev s40 rfl).trans rfl) ?_
    clear s40
    have hne : ¬ (sI mxI l (0, 0)).2 = 0 := by simpa using hse
    have VV : dcM c f = (⟨zG, [], [], (0, 0)⟩, (sI mxI l (0, 0)).2) := by
      have hr : rdM l = (⟨zG, [], [], (0, 0)⟩, (sI mxI l (0, 0)).2) := by unfold rdM; rw [if_pos hne]
      unfold dcM
      rw [if_neg (by simp [hcf]), if_neg (by simp [hop0]), ← hl, hr, if_pos hne]
    have hS : UB (w.heap.size + 1) y4 y4.drew := UB.of_below (Below.refl _ _).drew
    have M0d := M0.bel (Below.refl _ _).drew
    go_upto_region 9 with fail
    refine vh_start (fun v => UB (w.heap.size + 1) y4 v) (by kernel_rfl) ?_
    refine vh_take 0 true (zG.val nilS nilS) rfl (by kernel_rfl) (by kernel_rfl) (by kernel_rfl) (want_none rfl) (fun hc v hv => ex_build rfl (bdM0 _)) rfl hz (by decide) hS (fun Y6 zz kk s41 => ?_)
    replace s4 := ku s4
    replace s8 := ku s8
    replace hz := zz
    clear kk zz s2 s9
    refine vh_take 1 true (.pointer (some ⟨b, 0, none⟩)) rfl (by kernel_rfl) (by kernel_rfl) (by kernel_rfl) (want_none rfl) (fun hc v hv => ex_move rfl (ev s8 rfl)) rfl hz (by decide) hS (fun Y7 zz kk s42 => ?_)
    replace s4 := ku s4
    replace s41 := ku s41
    replace hz := zz
    clear kk zz s8 Y6
    refine vh_take 2 true (.pointer (some ⟨b, 0, none⟩)) rfl (by kernel_rfl) (by kernel_rfl) (by kernel_rfl) (want_none rfl) (fun hc v hv => ex_nil rfl (ev s42 rfl)) rfl hz (by decide) hS (fun Y8 zz kk s43 => ?_)
    replace s4 := ku s4
    replace s41 := ku s41
    replace hz := zz
    clear kk zz s42 Y7
    refine vh_take 3 true (.pointer (some ⟨b, 2, none⟩)) rfl (by kernel_rfl) (by kernel_rfl) (by kernel_rfl) (want_none rfl) (fun hc v hv => ex_fa rfl (ev s43 rfl) (faErr _ _)) rfl hz (by decide) hS (fun Y9 zz kk s44 => ?_)
    replace s4 := ku s4
    replace s41 := ku s41
    replace hz := zz
    clear kk zz s43 Y8
    refine vh_take 4 true (.int .i64 (sI mxI l (0, 0)).2) rfl (by kernel_rfl) (by kernel_rfl) (by kernel_rfl) (want_none rfl) (fun hc v hv => ex_ld rfl (ev s44 rfl) (Q4.ldErr9 hv (by omega))) rfl hz (by decide) hS (fun Yba zz kk s45 => ?_)
    replace s4 := ku s4
    replace s41 := ku s41
    replace hz := zz
    clear kk zz s44 Y9
    refine vh_store 5 (sets y4.drew (w.heap.size + 1) 0 (zG.cs nilS nilS)) rfl (by kernel_rfl) (want_none rfl) (ex_st rfl (ev s4 rfl) (ev s41 rfl) (stM M0d zG nilS nilS rfl rfl)) rfl (hS.trans (M0d.putU zG nilS nilS).2) ?_
    have SPz := M0d.putU zG nilS nilS
    obtain ⟨v1, hv1⟩ : ∃ y, y = sets y4.drew (w.heap.size + 1) 0 (zG.cs nilS nilS) := ⟨_, rfl⟩
    rw [← hv1] at SPz ⊢
    clear hv1
    have hS9 := hS.trans SPz.2
    clear hS
    have hS := hS9
    refine vh_take 6 true (.int .i64 (sI mxI l (0, 0)).2) rfl (by kernel_rfl) (by kernel_rfl) (by kernel_rfl) (want_none rfl) (fun hc v hv => ex_assign rfl (ev s45 rfl)) rfl hz (by decide) hS (fun Ybb zz kk s5 => ?_)
    replace s4 := ku s4
    replace hz := zz
    clear kk zz s41 s45 Yba
    refine vh_done (by kernel_rfl) ?_
    have hfin : Below w.heap.size w v1 := hB.trans (UB.below hS hB.size (by omega))
    go_wp2
    refine bodyPost_msg rfl s4 s5 SPz.1 ?_
    rw [VV]
    exact ⟨_, _, rfl, OwnY.nil _ _ _, OwnY.nil _ _ _, hfin⟩
  rw [hse] at s40
  refine wp_cond_false ((ev s40 rfl).trans rfl) ?_
  have hse0 : (sI mxI l (0, 0)).2 = 0 := by simpa using hse
  clear s40 hse
  obtain ⟨k, hk⟩ : ∃ k, k = rI mxI l (0, 0) := ⟨_, rfl⟩
  rw [← hk] at s9
  go_upto_region 10 with fail
  refine wp_region_lit ?_
  refine vt _ (ex_move rfl (ev s9 rfl)) hz (fun Ybc zz kk s46 => ?_)
  replace s2 := ku s2
  replace s4 := ku s4
  replace s8 := ku s8
  replace s9 := ku s9
  replace hz := zz
  clear kk zz
  refine vcallP (want_none rfl) (ex_call rfl (by simp only [List.map_toArray, List.map_cons, List.map_nil, (ev s46 rfl), evc] <;> rfl) rfl) (uses_all (k : Int) y4) rfl hz (by decide) ?_
  rintro e y5 ⟨vu, rfl, OU, hb⟩; have hz5 := hb.size; obtain ⟨ua, uc, hvu, _⟩ := OU.form; subst hvu
  refine ⟨_, rfl, fun Ybd zz kk s47 => ?_⟩
  replace Cc := Cc.bel hb
  replace M0 := M0.bel hb
  replace hB := hB.trans (hb.mono hB.size)
  replace Q4 := Q4.later hb
  clear hb
  replace s2 := ku s2
  replace s4 := ku s4
  replace s8 := ku s8
  replace s9 := ku s9
  replace hz := zz
  clear kk zz s46 Ybc
  refine vt _ (ex_assign rfl (ev s47 rfl)) hz (fun Ybe zz kk s10 => ?_)
  replace s2 := ku s2
  replace s4 := ku s4
  replace s8 := ku s8
  replace s9 := ku s9
  replace hz := zz
  clear kk zz s47 Ybd
  refine wpList_nil ?_
  go_upto_region 11 with fail
  refine wp_region_lit ?_
  refine vt _ (ex_move rfl (ev s10 rfl)) hz (fun Ybf zz kk s48 => ?_)
  replace s2 := ku s2
  replace s4 := ku s4
  replace s8 := ku s8
  replace s9 := ku s9
  replace s10 := ku s10
  replace hz := zz
  clear kk zz
  refine vt (.int .i64 ((usL (k : Int)).length : Int)) (ex_lenB rfl rfl (ev s48 rfl)) hz (fun Ybg zz kk s49 => ?_)
  replace s2 := ku s2
  replace s4 := ku s4
  replace s8 := ku s8
  replace s9 := ku s9
  replace s10 := ku s10
  replace hz := zz
  clear kk zz s48 Ybf
  refine vt (.bool (decide (((usL (k : Int)).length : Int) = 0))) (ex_bin rfl (ev s49 rfl) rfl (eqlC _ _ _ _ _)) hz (fun Ybh zz kk s50 => ?_)
  replace s2 := ku s2
  replace s4 := ku s4
  replace s8 := ku s8
  replace s9 := ku s9
  replace s10 := ku s10
  replace hz := zz
  clear kk zz s49 Ybg
  refine wpList_nil ?_
  go_upto_region 13 with fail
  cases hul : decide (((usL (k : Int)).length : Int) = 0)
  rotate_left
  · rw [hul] at s50
    refine wp_cond_true ((ev s50 rfl).trans rfl) ?_
    clear s50
    have hK : kdB (k : Int) = false := usL_none (of_decide_eq_true hul)
    have VV : dcM c f = (⟨zG, [], [], (0, 0)⟩, 70) := by
      have hr : rdM l = (⟨zG, [], [], (0, 0)⟩, 70) := by unfold rdM; rw [if_neg (by simp [hse0]), ← hk, if_pos hK]
      unfold dcM
      rw [if_neg (by simp [hcf]), if_neg (by simp [hop0]), ← hl, hr, if_pos (by decide)]
    go_upto_region 12 with fail
    refine wp_region_lit ?_
    refine vt (zG.val nilS nilS) (ex_build rfl (bdM0 _)) hz (fun Ybi zz kk s51 => ?_)
    replace s4 := ku s4
    replace hz := zz
    clear kk zz s2 s8 s9 s10
    refine vs (sets y5 (w.heap.size + 1) 0 (zG.cs nilS nilS)) (want_none rfl) (ex_st rfl (ev s4 rfl) (ev s51 rfl) (stM M0 zG nilS nilS rfl rfl)) rfl ?_
    have SPz := M0.putU zG nilS nilS
    obtain ⟨v1, hv1⟩ : ∃ y, y = sets y5 (w.heap.size + 1) 0 (zG.cs nilS nilS) := ⟨_, rfl⟩
    rw [← hv1] at SPz ⊢
    clear hv1
    refine vt (.int .i64 70) (ex_assign rfl rfl) hz (fun Ybj zz kk s5 => ?_)
    replace s4 := ku s4
    replace hz := zz
    clear kk zz s51 Ybi
    refine wpList_nil ?_
    have hfin : Below w.heap.size w v1 := hB.trans (SPz.2.below hB.size (by omega))
    go_wp2
    refine bodyPost_msg rfl s4 s5 SPz.1 ?_
    rw [VV]
    exact ⟨_, _, rfl, OwnY.nil _ _ _, OwnY.nil _ _ _, hfin⟩
  rw [hul] at s50
  refine wp_cond_false ((ev s50 rfl).trans rfl) ?_
  have hK : kdB (k : Int) = true := usL_some (of_decide_eq_false hul)
  clear s50 hul
  have hk2 : k < 15 := by have := inR_iff.1 hK; omega
  have hul := us_len hK
  obtain ⟨gu, hgu, hgu1, hgu2⟩ : ∃ g, ua = some ⟨g, 0, none⟩ ∧ y4.heap.size ≤ g ∧ g < y5.heap.size := by
    rcases OU.2 with ⟨h1, h2⟩ | ⟨g, cap, cur, h1, h2, h3, _⟩
    · omega
    · injection h1 with h4 _ _
      exact ⟨g, h4, h2, (Array.getElem?_eq_some_iff.1 h3).1⟩
  subst hgu
  rw [hul] at s10 OU
  obtain ⟨cu, hcu⟩ : ∃ x, x = uc := ⟨_, rfl⟩
  rw [← hcu] at s10 OU
  clear hcu
  obtain ⟨qm, hqm⟩ : ∃ q, q = y5.heap.size := ⟨_, rfl⟩
  obtain ⟨y6, hy6⟩ : ∃ y, y = y5.alloc (.cells (zG.cs nilS nilS).toArray 38) := ⟨_, rfl⟩
  have hb : Below y5.heap.size y5 y6 := by rw [hy6]; exact (Below.refl _ _).alloc (Nat.le_refl _) _
  have M6 : MBox y6 qm zG nilS nilS := by rw [hy6, hqm]; exact MBox.new0 y5
  have hz6 : y6.heap.size = qm + 1 := by rw [hy6, hqm]; simp
  have OU6 := OwnY.grow OU hb
  replace Cc := Cc.bel hb
  replace M0 := M0.bel hb
  replace hB := hB.trans (hb.mono hB.size)
  replace Q4 := Q4.later hb
  clear hb
  clear OU
  go_upto_region 13 with fail
  refine wp_region_lit ?_
  refine vt _ (ex_move rfl (ev s9 rfl)) hz (fun Ybk zz kk s52 => ?_)
  replace s2 := ku s2
  replace s4 := ku s4
  replace s8 := ku s8
  replace s9 := ku s9
  replace s10 := ku s10
  replace hz := zz
  clear kk zz
  refine vt (({ zG with k := (k : Int) } : Mg).val nilS nilS) (ex_buildP rfl (by simp only [List.map_toArray, List.map_cons, List.map_nil, (ev s52 rfl)] <;> rfl) (bdM _ _)) hz (fun Ybl zz kk s53 => ?_)
  replace s2 := ku s2
  replace s4 := ku s4
  replace s8 := ku s8
  replace s9 := ku s9
  replace s10 := ku s10
  replace hz := zz
  clear kk zz s52 Ybk
  refine vw (.pointer (some ⟨qm, 0, none⟩)) y6 (want_none rfl) (ex_al rfl (by rw [hy6, hqm]; exact alM _)) rfl hz (by decide) (fun Ybm zz kk s11 => ?_)
  replace s2 := ku s2
  replace s4 := ku s4
  replace s8 := ku s8
  replace s9 := ku s9
  replace s10 := ku s10
  replace s53 := ku s53
  replace hz := zz
  clear kk zz Ybl
  refine vs (sets y6 qm 0 (({ zG with k := (k : Int) } : Mg).cs nilS nilS)) (want_none rfl) (ex_st rfl (ev s11 rfl) (ev s53 rfl) (stM M6 ({ zG with k := (k : Int) } : Mg) nilS nilS rfl rfl)) rfl ?_
  have SP7 := M6.putU ({ zG with k := (k : Int) } : Mg) nilS nilS
  obtain ⟨y7, hy7⟩ : ∃ y, y = sets y6 qm 0 (({ zG with k := (k : Int) } : Mg).cs nilS nilS) := ⟨_, rfl⟩
  rw [← hy7] at SP7 ⊢
  have hz7 : y7.heap.size = qm + 1 := by rw [hy7, size_sets]; exact hz6
  clear hy7 hy6 M6
  have M7 := SP7.1
  replace Cc := Cc.upd9 SP7.2 (by omega)
  replace M0 := M0.upd SP7.2 (by omega)
  replace hB := hB.trans (SP7.2.below hB.size (by omega))
  have Q7 := Q4.ub (S := fun x => x = qm) SP7.2 (fun x hx => by omega)
  have OU7 := OwnY.upd1 OU6 SP7.2 (fun g hg (e : g = qm) => by have h9 : gu = g := Option.some.inj hg; omega)
  clear SP7 Q4 OU6 hz6
  clear s53
  refine wpList_nil ?_
  obtain ⟨x0, hx0⟩ : ∃ x0 : Rst, x0 = ⟨({ zG with k := (k : Int) } : Mg), [], [], sI mxI l (0, 0)⟩ := ⟨_, rfl⟩
  have Q7x : QD (b + 1) y7 b l x0.s := by rw [hx0]; exact Q7
  have M7x : MBox y7 qm x0.m nilS nilS := by rw [hx0]; exact M7
  clear Q7 M7
  have hx0L : x0.L = [] := by rw [hx0]
  have hx0D : x0.D = [] := by rw [hx0]
  have hx0n : nmL x0.m = List.replicate 5 0 := by rw [hx0]; rfl
  have hR : rdM l = (rCols l k x0 10, Wi.endErr l.length (rCols l k x0 10).s.1 (rCols l k x0 10).s.2) := by unfold rdM; rw [if_neg (by simp [hse0]), ← hk, if_neg (by simp [hK]), hx0]
  have hbm : b < qm := by omega
  have hgm : gu < qm := by omega
  have hgb : gu ≠ b := by omega
  have HCU : ∀ j, j < 10 → ∀ v, Upd (fun x => x = b ∨ qm ≤ x) y7 v → v.cell? ⟨gu, j, none⟩ = some (.bool (!decide ((tabA k j : Int) = 0))) := fun j hj v hv => by
    have h1 := OwnY.cell kB OU7 j _ (us_tab7 hK j hj) 0 _ rfl
    rw [show j * yB.k + 0 = j by show j * 1 + 0 = j; omega] at h1
    exact (hv.cell (p := ⟨gu, j, none⟩) (show gu < y7.heap.size by omega) (show ¬ (gu = b ∨ qm ≤ gu) by omega)).trans h1
  obtain ⟨y8, hmk, ON8, hb⟩ := run_mk5 y7
  obtain ⟨qn, hqn⟩ : ∃ q, q = y7.heap.size := ⟨_, rfl⟩
  rw [← hqn] at hmk
  have ON8x : OwnY yJ y7.heap.size y8 (.slice (some ⟨qn, 0, none⟩) 5 5) (nmL x0.m) := by rw [hx0n, hqn]; exact ON8
  go_upto_region 14 with fail
  refine wp_region_lit ?_
  refine vw (.slice (some ⟨qn, 0, none⟩) 5 5) y8 (want_none rfl) (ex_mk rfl rfl rfl hmk) rfl hz (by decide) (fun Ybn zz kk s54 => ?_)
  clear hmk ON8
  have HU8 : Upd (fun x => x = b ∨ qm ≤ x) y7 y8 := Upd.of_below hb
  have Q8 := Q7x.later hb
  have M8 := M7x.bel hb
  clear hb
  replace s2 := ku s2
  replace s4 := ku s4
  replace s8 := ku s8
  replace s9 := ku s9
  replace s10 := ku s10
  replace s11 := ku s11
  replace hz := zz
  clear kk zz
  refine vt _ (ex_assign rfl (ev s54 rfl)) hz (fun Ybo zz kk s12 => ?_)
  replace s2 := ku s2
  replace s4 := ku s4
  replace s8 := ku s8
  replace s9 := ku s9
  replace s10 := ku s10
  replace s11 := ku s11
  replace hz := zz
  clear kk zz s54 Ybn
  refine wpList_nil ?_
  go_upto_region 15 with fail
  refine wp_region_lit ?_
  refine vt (.int .i64 0) (ex_assign rfl rfl) hz (fun Ybp zz kk s13 => ?_)
  replace s2 := ku s2
  replace s4 := ku s4
  replace s8 := ku s8
  replace s9 := ku s9
  replace s10 := ku s10
  replace s11 := ku s11
  replace s12 := ku s12
  replace hz := zz
  clear kk zz
  refine wpList_nil ?_
  go_upto_region 16 with fail
  refine v_loop 13 5 (fun j T wr => T.size = 169 ∧ T[2]? = some (gw true (.pointer (some ⟨w.heap.size, 0, none⟩))) ∧ T[4]? = some (gw true (.pointer (some ⟨(w.heap.size + 1), 0, none⟩))) ∧ T[8]? = some (gw true (.pointer (some ⟨b, 0, none⟩))) ∧ T[9]? = some (gw true (.int .i64 (k : Int))) ∧ T[10]? = some (gw true (.slice (some ⟨gu, 0, none⟩) 10 cu)) ∧ T[11]? = some (gw true (.pointer (some ⟨qm, 0, none⟩))) ∧ T[12]? = some (gw true (.slice (some ⟨qn, 0, none⟩) 5 5)) ∧ T[13]? = some (gw true (.int .i64 (j : Int))) ∧ Hid (QD (b + 1) wr b l (rCols l k x0 j).s ∧ OwnY yJ y7.heap.size wr (.slice (some ⟨qn, 0, none⟩) 5 5) (nmL (rCols l k x0 j).m) ∧ MBox wr qm x0.m nilS nilS ∧ Upd (fun x => x = b ∨ qm ≤ x) y7 wr)) (fun j T w h => h.2.2.2.2.2.2.2.2.1) ⟨hz, s2, s4, s8, s9, s10, s11, s12, s13, Q8, ON8x, M8, HU8⟩ ?_
  clear hz s2 s4 s8 s9 s10 s11 s12 s13 Q8 ON8x M8 HU8
  intro j R0 wr hj hh
  obtain ⟨hz, s2, s4, s8, s9, s10, s11, s12, s13, HI⟩ := hh
  obtain ⟨QR, ONR, MR, HUR⟩ := HI.out
  clear HI
  go_upto_region 16 with fail
  refine wp_region_lit ?_
  refine vt _ (ex_move rfl (ev s13 rfl)) hz (fun Ybq zz kk s55 => ?_)
  replace s2 := ku s2
  replace s4 := ku s4
  replace s8 := ku s8
  replace s9 := ku s9
  replace s10 := ku s10
  replace s11 := ku s11
  replace s12 := ku s12
  replace s13 := ku s13
  replace hz := zz
  clear kk zz
  refine vt (.bool (decide ((j : Int) < 5))) (ex_bin rfl (ev s55 rfl) rfl (lssC _ _ _ _ _)) hz (fun Ybr zz kk s56 => ?_)
  replace s2 := ku s2
  replace s4 := ku s4
  replace s8 := ku s8
  replace s9 := ku s9
  replace s10 := ku s10
  replace s11 := ku s11
  replace s12 := ku s12
  replace s13 := ku s13
  replace hz := zz
  clear kk zz s55 Ybq
  refine wpList_nil ?_
  go_upto_region 18 with fail
  cases e8 : decide ((j : Int) < 5)
  rotate_left
  · refine wp_cond_true ((ev s56 rfl).trans (congrArg Value.bool e8)) ?_
    have hlt : j < 5 := by have := of_decide_eq_true e8; omega
    clear s56 e8
    go_upto_region 18 with fail
    refine wp_region_lit ?_
    refine vt _ (ex_move rfl (ev s10 rfl)) hz (fun Ybs zz kk s59 => ?_)
    replace s2 := ku s2
    replace s4 := ku s4
    replace s8 := ku s8
    replace s9 := ku s9
    replace s10 := ku s10
    replace s11 := ku s11
    replace s12 := ku s12
    replace s13 := ku s13
    replace hz := zz
    clear kk zz
    refine vt _ (ex_move rfl (ev s13 rfl)) hz (fun Ybt zz kk s60 => ?_)
    replace s2 := ku s2
    replace s4 := ku s4
    replace s8 := ku s8
    replace s9 := ku s9
    replace s10 := ku s10
    replace s11 := ku s11
    replace s12 := ku s12
    replace s13 := ku s13
    replace s59 := ku s59
    replace hz := zz
    clear kk zz Ybs
    refine vt (.pointer (some ⟨gu, j, none⟩)) (ex_ix rfl (ev s59 rfl) (ev s60 rfl) (by exact ixBool gu j 10 cu (by omega) _)) hz (fun Ybu zz kk s61 => ?_)
    replace s2 := ku s2
    replace s4 := ku s4
    replace s8 := ku s8
    replace s9 := ku s9
    replace s10 := ku s10
    replace s11 := ku s11
    replace s12 := ku s12
    replace s13 := ku s13
    replace hz := zz
    clear kk zz s59 s60 Ybt
    refine vt (.bool (!decide ((tabA k j : Int) = 0))) (ex_ld rfl (ev s61 rfl) (ldBool (HCU j (by omega) _ HUR))) hz (fun Ybv zz kk s62 => ?_)
    replace s2 := ku s2
    replace s4 := ku s4
    replace s8 := ku s8
    replace s9 := ku s9
    replace s10 := ku s10
    replace s11 := ku s11
    replace s12 := ku s12
    replace s13 := ku s13
    replace hz := zz
    clear kk zz s61 Ybu
    refine wpList_nil ?_
    go_upto_region 19 with fail
    refine v_cond (fun T wr => T.size = 169 ∧ T[2]? = some (gw true (.pointer (some ⟨w.heap.size, 0, none⟩))) ∧ T[4]? = some (gw true (.pointer (some ⟨(w.heap.size + 1), 0, none⟩))) ∧ T[8]? = some (gw true (.pointer (some ⟨b, 0, none⟩))) ∧ T[9]? = some (gw true (.int .i64 (k : Int))) ∧ T[10]? = some (gw true (.slice (some ⟨gu, 0, none⟩) 10 cu)) ∧ T[11]? = some (gw true (.pointer (some ⟨qm, 0, none⟩))) ∧ T[12]? = some (gw true (.slice (some ⟨qn, 0, none⟩) 5 5)) ∧ T[13]? = some (gw true (.int .i64 (j : Int))) ∧ Hid (QD (b + 1) wr b l (rCols l k x0 (j + 1)).s ∧ OwnY yJ y7.heap.size wr (.slice (some ⟨qn, 0, none⟩) 5 5) (nmL (rCols l k x0 (j + 1)).m) ∧ MBox wr qm x0.m nilS nilS ∧ Upd (fun x => x = b ∨ qm ≤ x) y7 wr)) s62 (fun hu => ?_) (fun hu => ⟨hz, s2, s4, s8, s9, s10, s11, s12, s13, by rw [rCols_none (show tabA k j = 0 by have h0 : ((tabA k j : Nat) : Int) = 0 := (by simpa using hu); omega)]; exact ⟨QR, ONR, MR, HUR⟩⟩) ?_
    · clear s62
      have ht : ¬ tabA k j = 0 := by intro h0; rw [h0] at hu; simp at hu
      obtain ⟨hn1, hn2⟩ := nm_set l (rCols l k x0 j) (!decide ((tabA k j : Int) = 15)) hlt
      rw [← rCols_some ht] at hn1 hn2
      have hzR := HUR.size
      go_upto_region 19 with fail
      refine wp_region_lit ?_
      refine vt _ (ex_move rfl (ev s12 rfl)) hz (fun Ybw zz kk s63 => ?_)
      replace s2 := ku s2
      replace s4 := ku s4
      replace s8 := ku s8
      replace s9 := ku s9
      replace s10 := ku s10
      replace s11 := ku s11
      replace s12 := ku s12
      replace s13 := ku s13
      replace hz := zz
      clear kk zz
      refine vt _ (ex_move rfl (ev s13 rfl)) hz (fun Ybx zz kk s64 => ?_)
      replace s2 := ku s2
      replace s4 := ku s4
      replace s8 := ku s8
      replace s9 := ku s9
      replace s10 := ku s10
      replace s11 := ku s11
      replace s12 := ku s12
      replace s13 := ku s13
      replace s63 := ku s63
      replace hz := zz
      clear kk zz Ybw
      refine vt _ (ex_move rfl (ev s8 rfl)) hz (fun Yby zz kk s65 => ?_)
      replace s2 := ku s2
      replace s4 := ku s4
      replace s8 := ku s8
      replace s9 := ku s9
      replace s10 := ku s10
      replace s11 := ku s11
      replace s12 := ku s12
      replace s13 := ku s13
      replace s63 := ku s63
      replace s64 := ku s64
      replace hz := zz
      clear kk zz Ybx
      refine vcallP (want_none rfl) (ex_call rfl (by simp only [List.map_toArray, List.map_cons, List.map_nil, (ev s65 rfl), evc] <;> rfl) rfl) (qd_I (b + 1) b mxI (Int.le_refl _) l (rCols l k x0 j).s wr QR) rfl hz (by decide) ?_
      rintro e z1 ⟨rfl, QZ, hu1⟩; have hzz := hu1.size
      refine ⟨_, rfl, fun Ybz zz kk s66 => ?_⟩
      have ON1 := OwnY.upd1 ONR hu1 (fun g hg (e : g = b) => by have h9 : qn = g := Option.some.inj hg; omega)
      have MZ := MR.upd hu1 (by omega)
      have HU1 := HUR.trans (hu1.mono (fun x _ hx => .inl hx))
      have hcj := OwnY.intJ ON1 (j := j) (List.getElem?_eq_getElem (show j < (nmL (rCols l k x0 j).m).length by show j < 5; exact hlt))
      have hfj := OwnY.free ON1 j
      clear QR ONR MR HUR hu1
      replace s2 := ku s2
      replace s4 := ku s4
      replace s8 := ku s8
      replace s9 := ku s9
      replace s10 := ku s10
      replace s11 := ku s11
      replace s12 := ku s12
      replace s13 := ku s13
      replace s63 := ku s63
      replace s64 := ku s64
      replace hz := zz
      clear kk zz s65 Yby
      refine vt (.pointer (some ⟨qn, j, none⟩)) (ex_ix rfl (ev s63 rfl) (ev s64 rfl) (by exact ixJ qn j 5 5 (by omega) _)) hz (fun Yb0 zz kk s67 => ?_)
      replace s2 := ku s2
      replace s4 := ku s4
      replace s8 := ku s8
      replace s9 := ku s9
      replace s10 := ku s10
      replace s11 := ku s11
      replace s12 := ku s12
      replace s13 := ku s13
      replace s66 := ku s66
      replace hz := zz
      clear kk zz s63 s64 Ybz
      refine vs (z1.setCell ⟨qn, j, none⟩ (.int .i64 (rI mxI l (rCols l k x0 j).s : Int))) (want_none rfl) (ex_st rfl (ev s67 rfl) (ev s66 rfl) (stJ hcj hfj _)) rfl ?_
      have ON2 := OwnY.setJ ON1 (j := j) (show j < 5 from hlt) (rI mxI l (rCols l k x0 j).s : Int)
      have hu2 : Upd (fun x => x = qn) z1 (z1.setCell ⟨qn, j, none⟩ (.int .i64 (rI mxI l (rCols l k x0 j).s : Int))) := (Upd.refl (fun x => x = qn) z1).setCell (p := ⟨qn, j, none⟩) (.inl rfl) _
      rw [← hn1] at ON2
      rw [← hn2] at QZ
      have QZ2 := QZ.ub hu2 (fun x hx => by omega)
      have MZ2 := MZ.upd hu2 (by omega)
      have HU2 := HU1.trans (hu2.mono (fun x _ hx => .inr (by omega)))
      clear s66 s67
      refine wpList_nil ?_
      exact ⟨_, rfl, hz, s2, s4, s8, s9, s10, s11, s12, s13, QZ2, ON2, MZ2, HU2⟩
    · clear hz s2 s4 s8 s9 s10 s11 s12 s13 s62 QR ONR MR HUR
      intro T8 w8 hJ
      obtain ⟨hz, s2, s4, s8, s9, s10, s11, s12, s13, HI⟩ := hJ
      go_upto_region 17 with fail
      refine wp_region_lit ?_
      refine vt _ (ex_move rfl (ev s13 rfl)) hz (fun Yb1 zz kk s57 => ?_)
      replace s2 := ku s2
      replace s4 := ku s4
      replace s8 := ku s8
      replace s9 := ku s9
      replace s10 := ku s10
      replace s11 := ku s11
      replace s12 := ku s12
      replace s13 := ku s13
      replace hz := zz
      clear kk zz
      refine vt (.int .i64 ((j + 1 : Nat) : Int)) (ex_bin rfl (ev s57 rfl) rfl (addJ j (by omega) _ _ _)) hz (fun Yb2 zz kk s58 => ?_)
      replace s2 := ku s2
      replace s4 := ku s4
      replace s8 := ku s8
      replace s9 := ku s9
      replace s10 := ku s10
      replace s11 := ku s11
      replace s12 := ku s12
      replace s13 := ku s13
      replace hz := zz
      clear kk zz s57 Yb1
      refine vt _ (ex_assign rfl (ev s58 rfl)) hz (fun Yb3 zz kk s13x => ?_)
      replace s2 := ku s2
      replace s4 := ku s4
      replace s8 := ku s8
      replace s9 := ku s9
      replace s10 := ku s10
      replace s11 := ku s11
      replace s12 := ku s12
      clear kk hz s58 s13
      have hz := zz
      have s13 := s13x
      clear zz s13x Yb2
      refine wpList_nil ?_
      exact ⟨_, rfl, by omega, hz, s2, s4, s8, s9, s10, s11, s12, s13, HI.out⟩
  refine wp_cond_false ((ev s56 rfl).trans (congrArg Value.bool e8)) ?_
  have hj5 : j = 5 := by have := of_decide_eq_false e8; omega
  subst hj5
  clear s56 e8 s13 hj
  obtain ⟨X, hX⟩ : ∃ X, X = rCols l k x0 5 := ⟨_, rfl⟩
  rw [← hX] at QR ONR
  obtain ⟨h51, h52, h53⟩ := rc5 l k x0 5 (Nat.le_refl _)
  rw [← hX] at h51 h52 h53
  have hzR := HUR.size
  go_upto_region 20 with fail
  refine wp_region_lit ?_
  refine vt _ (ex_move rfl (ev s12 rfl)) hz (fun Yb4 zz kk s68 => ?_)
  replace s2 := ku s2
  replace s4 := ku s4
  replace s8 := ku s8
  replace s9 := ku s9
  replace s10 := ku s10
  replace s11 := ku s11
  replace s12 := ku s12
  replace hz := zz
  clear kk zz
  refine vt (.pointer (some ⟨qn, 0, none⟩)) (ex_ix rfl (ev s68 rfl) rfl (by exact ixJ qn 0 5 5 (by omega) _)) hz (fun Yb5 zz kk s69 => ?_)
  replace s2 := ku s2
  replace s4 := ku s4
  replace s8 := ku s8
  replace s9 := ku s9
  replace s10 := ku s10
  replace s11 := ku s11
  replace s12 := ku s12
  replace hz := zz
  clear kk zz s68 Yb4
  refine vt (.int .i64 X.m.nd) (ex_ld rfl (ev s69 rfl) (ldJ (OwnY.intJ ONR (j := 0) rfl))) hz (fun Yb6 zz kk s70 => ?_)
  replace s2 := ku s2
  replace s4 := ku s4
  replace s8 := ku s8
  replace s9 := ku s9
  replace s10 := ku s10
  replace s11 := ku s11
  replace s12 := ku s12
  replace hz := zz
  clear kk zz s69 Yb5
  refine vt (.pointer (some ⟨qm, 1, none⟩)) (ex_fa rfl (ev s11 rfl) (MBox.faNode _ _)) hz (fun Yb7 zz kk s71 => ?_)
  replace s2 := ku s2
  replace s4 := ku s4
  replace s8 := ku s8
  replace s9 := ku s9
  replace s10 := ku s10
  replace s11 := ku s11
  replace s12 := ku s12
  replace s70 := ku s70
  replace hz := zz
  clear kk zz Yb6
  refine vs (sets wr qm 1 [.int .i64 X.m.nd]) (want_none rfl) (ex_st rfl (ev s71 rfl) (ev s70 rfl) (stInt X.m.nd (MR.cell 1 _ rfl) (MR.free 1))) rfl ?_
  have SP := MR.splice 1 [.int .i64 X.m.nd] { x0.m with nd := X.m.nd } nilS nilS (by show _ + _ ≤ 18; simp) rfl
  obtain ⟨u0, hu0⟩ : ∃ y, y = sets wr qm 1 [.int .i64 X.m.nd] := ⟨_, rfl⟩
  rw [← hu0] at SP ⊢
  clear hu0
  have QN := QR.ub (S := fun x => x = qm) SP.2 (fun x hx => by omega)
  have ONN := OwnY.upd1 ONR SP.2 (fun g hg (e : g = qm) => by have h9 : qn = g := Option.some.inj hg; omega)
  have HUN := HUR.trans (SP.2.mono (fun x _ hx => .inr (by omega)))
  clear QR ONR HUR MR
  have QR := QN
  have ONR := ONN
  have HUR := HUN
  have MR := SP.1
  clear QN ONN HUN SP
  clear s70 s71
  refine wpList_nil ?_
  go_upto_region 21 with fail
  refine wp_region_lit ?_
  refine vt _ (ex_move rfl (ev s12 rfl)) hz (fun Yb8 zz kk s72 => ?_)
  replace s2 := ku s2
  replace s4 := ku s4
  replace s8 := ku s8
  replace s9 := ku s9
  replace s10 := ku s10
  replace s11 := ku s11
  replace s12 := ku s12
  replace hz := zz
  clear kk zz
  refine vt (.pointer (some ⟨qn, 1, none⟩)) (ex_ix rfl (ev s72 rfl) rfl (by exact ixJ qn 1 5 5 (by omega) _)) hz (fun Yb9 zz kk s73 => ?_)
  replace s2 := ku s2
  replace s4 := ku s4
  replace s8 := ku s8
  replace s9 := ku s9
  replace s10 := ku s10
  replace s11 := ku s11
  replace s12 := ku s12
  replace hz := zz
  clear kk zz s72 Yb8
  refine vt (.int .i64 X.m.vw) (ex_ld rfl (ev s73 rfl) (ldJ (OwnY.intJ ONR (j := 1) rfl))) hz (fun Yca zz kk s74 => ?_)
  replace s2 := ku s2
  replace s4 := ku s4
  replace s8 := ku s8
  replace s9 := ku s9
  replace s10 := ku s10
  replace s11 := ku s11
  replace s12 := ku s12
  replace hz := zz
  clear kk zz s73 Yb9
  refine vt (.pointer (some ⟨qm, 2, none⟩)) (ex_fa rfl (ev s11 rfl) (MBox.faView _ _)) hz (fun Ycb zz kk s75 => ?_)
  replace s2 := ku s2
  replace s4 := ku s4
  replace s8 := ku s8
  replace s9 := ku s9
  replace s10 := ku s10
  replace s11 := ku s11
  replace s12 := ku s12
  replace s74 := ku s74
  replace hz := zz
  clear kk zz Yca
  refine vs (sets u0 qm 2 [.int .i64 X.m.vw]) (want_none rfl) (ex_st rfl (ev s75 rfl) (ev s74 rfl) (stInt X.m.vw (MR.cell 2 _ rfl) (MR.free 2))) rfl ?_
  have SP := MR.splice 2 [.int .i64 X.m.vw] { ({ x0.m with nd := X.m.nd } : Mg) with vw := X.m.vw } nilS nilS (by show _ + _ ≤ 18; simp) rfl
  obtain ⟨u1, hu1⟩ : ∃ y, y = sets u0 qm 2 [.int .i64 X.m.vw] := ⟨_, rfl⟩
  rw [← hu1] at SP ⊢
  clear hu1
  have QN := QR.ub (S := fun x => x = qm) SP.2 (fun x hx => by omega)
  have ONN := OwnY.upd1 ONR SP.2 (fun g hg (e : g = qm) => by have h9 : qn = g := Option.some.inj hg; omega)
  have HUN := HUR.trans (SP.2.mono (fun x _ hx => .inr (by omega)))
  clear QR ONR HUR MR
  have QR := QN
  have ONR := ONN
  have HUR := HUN
  have MR := SP.1
  clear QN ONN HUN SP
  clear s74 s75
  refine wpList_nil ?_
  go_upto_region 22 with fail
  refine wp_region_lit ?_
  refine vt _ (ex_move rfl (ev s12 rfl)) hz (fun Ycc zz kk s76 => ?_)
  replace s2 := ku s2
  replace s4 := ku s4
  replace s8 := ku s8
  replace s9 := ku s9
  replace s10 := ku s10
  replace s11 := ku s11
  replace s12 := ku s12
  replace hz := zz
  clear kk zz
  refine vt (.pointer (some ⟨qn, 2, none⟩)) (ex_ix rfl (ev s76 rfl) rfl (by exact ixJ qn 2 5 5 (by omega) _)) hz (fun Ycd zz kk s77 => ?_)
  replace s2 := ku s2
  replace s4 := ku s4
  replace s8 := ku s8
  replace s9 := ku s9
  replace s10 := ku s10
  replace s11 := ku s11
  replace s12 := ku s12
  replace hz := zz
  clear kk zz s76 Ycc
  refine vt (.int .i64 X.m.ls) (ex_ld rfl (ev s77 rfl) (ldJ (OwnY.intJ ONR (j := 2) rfl))) hz (fun Yce zz kk s78 => ?_)
  replace s2 := ku s2
  replace s4 := ku s4
  replace s8 := ku s8
  replace s9 := ku s9
  replace s10 := ku s10
  replace s11 := ku s11
  replace s12 := ku s12
  replace hz := zz
  clear kk zz s77 Ycd
  refine vt (.pointer (some ⟨qm, 13, none⟩)) (ex_fa rfl (ev s11 rfl) (MBox.faLast _ _)) hz (fun Ycf zz kk s79 => ?_)
  replace s2 := ku s2
  replace s4 := ku s4
  replace s8 := ku s8
  replace s9 := ku s9
  replace s10 := ku s10
  replace s11 := ku s11
  replace s12 := ku s12
  replace s78 := ku s78
  replace hz := zz
  clear kk zz Yce
  refine vs (sets u1 qm 13 [.int .i64 X.m.ls]) (want_none rfl) (ex_st rfl (ev s79 rfl) (ev s78 rfl) (stInt X.m.ls (MR.cell 13 _ rfl) (MR.free 13))) rfl ?_
  have SP := MR.splice 13 [.int .i64 X.m.ls] { ({ ({ x0.m with nd := X.m.nd } : Mg) with vw := X.m.vw } : Mg) with ls := X.m.ls } nilS nilS (by show _ + _ ≤ 18; simp) rfl
  obtain ⟨u2, hu2⟩ : ∃ y, y = sets u1 qm 13 [.int .i64 X.m.ls] := ⟨_, rfl⟩
  rw [← hu2] at SP ⊢
  clear hu2
  have QN := QR.ub (S := fun x => x = qm) SP.2 (fun x hx => by omega)
  have ONN := OwnY.upd1 ONR SP.2 (fun g hg (e : g = qm) => by have h9 : qn = g := Option.some.inj hg; omega)
  have HUN := HUR.trans (SP.2.mono (fun x _ hx => .inr (by omega)))
  clear QR ONR HUR MR
  have QR := QN
  have ONR := ONN
  have HUR := HUN
  have MR := SP.1
  clear QN ONN HUN SP
  clear s78 s79
  refine wpList_nil ?_
  go_upto_region 23 with fail
  refine wp_region_lit ?_
  refine vt _ (ex_move rfl (ev s12 rfl)) hz (fun Ycg zz kk s80 => ?_)
  replace s2 := ku s2
  replace s4 := ku s4
  replace s8 := ku s8
  replace s9 := ku s9
  replace s10 := ku s10
  replace s11 := ku s11
  replace s12 := ku s12
  replace hz := zz
  clear kk zz
  refine vt (.pointer (some ⟨qn, 3, none⟩)) (ex_ix rfl (ev s80 rfl) rfl (by exact ixJ qn 3 5 5 (by omega) _)) hz (fun Ych zz kk s81 => ?_)
  replace s2 := ku s2
  replace s4 := ku s4
  replace s8 := ku s8
  replace s9 := ku s9
  replace s10 := ku s10
  replace s11 := ku s11
  replace s12 := ku s12
  replace hz := zz
  clear kk zz s80 Ycg
  refine vt (.int .i64 X.m.p) (ex_ld rfl (ev s81 rfl) (ldJ (OwnY.intJ ONR (j := 3) rfl))) hz (fun Yci zz kk s82 => ?_)
  replace s2 := ku s2
  replace s4 := ku s4
  replace s8 := ku s8
  replace s9 := ku s9
  replace s10 := ku s10
  replace s11 := ku s11
  replace s12 := ku s12
  replace hz := zz
  clear kk zz s81 Ych
  refine vt (.pointer (some ⟨qm, 11, none⟩)) (ex_fa rfl (ev s11 rfl) (MBox.faPlace _ _)) hz (fun Ycj zz kk s83 => ?_)
  replace s2 := ku s2
  replace s4 := ku s4
  replace s8 := ku s8
  replace s9 := ku s9
  replace s10 := ku s10
  replace s11 := ku s11
  replace s12 := ku s12
  replace s82 := ku s82
  replace hz := zz
  clear kk zz Yci
  refine vs (sets u2 qm 11 [.int .i64 X.m.p]) (want_none rfl) (ex_st rfl (ev s83 rfl) (ev s82 rfl) (stInt X.m.p (MR.cell 11 _ rfl) (MR.free 11))) rfl ?_
  have SP := MR.splice 11 [.int .i64 X.m.p] { ({ ({ ({ x0.m with nd := X.m.nd } : Mg) with vw := X.m.vw } : Mg) with ls := X.m.ls } : Mg) with p := X.m.p } nilS nilS (by show _ + _ ≤ 18; simp) rfl
  obtain ⟨u3, hu3⟩ : ∃ y, y = sets u2 qm 11 [.int .i64 X.m.p] := ⟨_, rfl⟩
  rw [← hu3] at SP ⊢
  clear hu3
  have QN := QR.ub (S := fun x => x = qm) SP.2 (fun x hx => by omega)
  have ONN := OwnY.upd1 ONR SP.2 (fun g hg (e : g = qm) => by have h9 : qn = g := Option.some.inj hg; omega)
  have HUN := HUR.trans (SP.2.mono (fun x _ hx => .inr (by omega)))
  clear QR ONR HUR MR
  have QR := QN
  have ONR := ONN
  have HUR := HUN
  have MR := SP.1
  clear QN ONN HUN SP
  clear s82 s83
  refine wpList_nil ?_
  go_upto_region 24 with fail
  refine wp_region_lit ?_
  refine vt _ (ex_move rfl (ev s12 rfl)) hz (fun Yck zz kk s84 => ?_)
  replace s2 := ku s2
  replace s4 := ku s4
  replace s8 := ku s8
  replace s9 := ku s9
  replace s10 := ku s10
  replace s11 := ku s11
  replace hz := zz
  clear kk zz s12
  refine vt (.pointer (some ⟨qn, 4, none⟩)) (ex_ix rfl (ev s84 rfl) rfl (by exact ixJ qn 4 5 5 (by omega) _)) hz (fun Ycl zz kk s85 => ?_)
  replace s2 := ku s2
  replace s4 := ku s4
  replace s8 := ku s8
  replace s9 := ku s9
  replace s10 := ku s10
  replace s11 := ku s11
  replace hz := zz
  clear kk zz s84 Yck
  refine vt (.int .i64 X.m.cm) (ex_ld rfl (ev s85 rfl) (ldJ (OwnY.intJ ONR (j := 4) rfl))) hz (fun Ycm zz kk s86 => ?_)
  replace s2 := ku s2
  replace s4 := ku s4
  replace s8 := ku s8
  replace s9 := ku s9
  replace s10 := ku s10
  replace s11 := ku s11
  replace hz := zz
  clear kk zz s85 Ycl
  refine vt (.pointer (some ⟨qm, 12, none⟩)) (ex_fa rfl (ev s11 rfl) (MBox.faCommit _ _)) hz (fun Ycn zz kk s87 => ?_)
  replace s2 := ku s2
  replace s4 := ku s4
  replace s8 := ku s8
  replace s9 := ku s9
  replace s10 := ku s10
  replace s11 := ku s11
  replace s86 := ku s86
  replace hz := zz
  clear kk zz Ycm
  refine vs (sets u3 qm 12 [.int .i64 X.m.cm]) (want_none rfl) (ex_st rfl (ev s87 rfl) (ev s86 rfl) (stInt X.m.cm (MR.cell 12 _ rfl) (MR.free 12))) rfl ?_
  have SP := MR.splice 12 [.int .i64 X.m.cm] { ({ ({ ({ ({ x0.m with nd := X.m.nd } : Mg) with vw := X.m.vw } : Mg) with ls := X.m.ls } : Mg) with p := X.m.p } : Mg) with cm := X.m.cm } nilS nilS (by show _ + _ ≤ 18; simp) rfl
  obtain ⟨u4, hu4⟩ : ∃ y, y = sets u3 qm 12 [.int .i64 X.m.cm] := ⟨_, rfl⟩
  rw [← hu4] at SP ⊢
  clear hu4
  have QN := QR.ub (S := fun x => x = qm) SP.2 (fun x hx => by omega)
  have ONN := OwnY.upd1 ONR SP.2 (fun g hg (e : g = qm) => by have h9 : qn = g := Option.some.inj hg; omega)
  have HUN := HUR.trans (SP.2.mono (fun x _ hx => .inr (by omega)))
  clear QR ONR HUR MR
  have QR := QN
  have ONR := ONN
  have HUR := HUN
  have MR := SP.1
  clear QN ONN HUN SP
  clear s86 s87
  refine wpList_nil ?_
  have e5 : { ({ ({ ({ ({ x0.m with nd := X.m.nd } : Mg) with vw := X.m.vw } : Mg) with ls := X.m.ls } : Mg) with p := X.m.p } : Mg) with cm := X.m.cm } = X.m := h51.symm
  have MSR : MS u4 qm X.m X.L X.D := ⟨nilS, nilS, by rw [← e5]; exact MR, by rw [h52, hx0L]; exact OwnY.nil _ _ _, by rw [h53, hx0D]; exact OwnY.nil _ _ _⟩
  rw [hX] at QR MSR
  clear MR ONR h51 h52 h53 e5 hX X hzR
  go_upto_region 25 with fail
  refine wp_region_lit ?_
  refine vt _ (ex_move rfl (ev s10 rfl)) hz (fun Yco zz kk s88 => ?_)
  replace s2 := ku s2
  replace s4 := ku s4
  replace s8 := ku s8
  replace s9 := ku s9
  replace s10 := ku s10
  replace s11 := ku s11
  replace hz := zz
  clear kk zz
  refine vt (.pointer (some ⟨gu, 5, none⟩)) (ex_ix rfl (ev s88 rfl) rfl (by exact ixBool gu 5 10 cu (by omega) _)) hz (fun Ycp zz kk s89 => ?_)
  replace s2 := ku s2
  replace s4 := ku s4
  replace s8 := ku s8
  replace s9 := ku s9
  replace s10 := ku s10
  replace s11 := ku s11
  replace hz := zz
  clear kk zz s88 Yco
  refine vt (.bool (!decide ((tabA k 5 : Int) = 0))) (ex_ld rfl (ev s89 rfl) (ldBool (HCU 5 (by omega) _ HUR))) hz (fun Ycq zz kk s90 => ?_)
  replace s2 := ku s2
  replace s4 := ku s4
  replace s8 := ku s8
  replace s9 := ku s9
  replace s10 := ku s10
  replace s11 := ku s11
  replace hz := zz
  clear kk zz s89 Ycp
  refine wpList_nil ?_
  go_upto_region 26 with fail
  refine v_cond (fun T wr => T.size = 169 ∧ T[2]? = some (gw true (.pointer (some ⟨w.heap.size, 0, none⟩))) ∧ T[4]? = some (gw true (.pointer (some ⟨(w.heap.size + 1), 0, none⟩))) ∧ T[8]? = some (gw true (.pointer (some ⟨b, 0, none⟩))) ∧ T[9]? = some (gw true (.int .i64 (k : Int))) ∧ T[10]? = some (gw true (.slice (some ⟨gu, 0, none⟩) 10 cu)) ∧ T[11]? = some (gw true (.pointer (some ⟨qm, 0, none⟩))) ∧ Hid (QD (b + 1) wr b l (rCols l k x0 6).s ∧ MS wr qm (rCols l k x0 6).m (rCols l k x0 6).L (rCols l k x0 6).D ∧ Upd (fun x => x = b ∨ qm ≤ x) y7 wr)) s90 (fun hu => ?_) (fun hu => ⟨hz, s2, s4, s8, s9, s10, s11, by rw [rCols_none (show tabA k 5 = 0 by have h0 : ((tabA k 5 : Nat) : Int) = 0 := (by simpa using hu); omega)]; exact ⟨QR, MSR, HUR⟩⟩) ?_
  · clear s90
    have ht : ¬ tabA k 5 = 0 := by intro h0; rw [h0] at hu; simp at hu
    have hX := rCols_some (l := l) (x := x0) ht
    obtain ⟨X, hXe⟩ : ∃ X, X = rCols l k x0 5 := ⟨_, rfl⟩
    rw [← hXe] at QR MSR hX
    clear hu
    have hzR := HUR.size
    obtain ⟨sv, tv, MM, OL, OD⟩ := MSR
    go_upto_region 26 with fail
    refine wp_region_lit ?_
    refine vt _ (ex_move rfl (ev s8 rfl)) hz (fun Ycr zz kk s91 => ?_)
    replace s2 := ku s2
    replace s4 := ku s4
    replace s8 := ku s8
    replace s9 := ku s9
    replace s10 := ku s10
    replace s11 := ku s11
    replace hz := zz
    clear kk zz
    refine vcallP (want_none rfl) (ex_call rfl (by simp only [List.map_toArray, List.map_cons, List.map_nil, (ev s91 rfl), evc] <;> rfl) rfl) (qdraw_any (b + 1) b l X.s _ QR) rfl hz (by decide) ?_
    rintro e z1 ⟨rfl, QN, hu1⟩; have hzN := hu1.size
    refine ⟨_, rfl, fun Ycs zz kk s92 => ?_⟩
    change _ = some (gw true (.agg #[.int .u64 (rD l X.s).1, .int .u64 (rD l X.s).2])) at s92
    have MMN := MM.upd hu1 (by omega)
    have OLN := OL.far hu1 (fun x hx => by omega)
    have ODN := OD.far hu1 (fun x hx => by omega)
    have HUN := HUR.trans (hu1.mono (fun x _ hx => .inl hx))
    have hzR2 := HUN.size
    clear QR OL OD HUR MM hu1 hzN hzR
    have QR := QN
    have OL := OLN
    have OD := ODN
    have HUR := HUN
    have MM := MMN
    have hzR := hzR2
    clear QN OLN ODN HUN MMN hzR2
    replace s2 := ku s2
    replace s4 := ku s4
    replace s8 := ku s8
    replace s9 := ku s9
    replace s10 := ku s10
    replace s11 := ku s11
    replace hz := zz
    clear kk zz s91 Ycr
    refine vt (.pointer (some ⟨qm, 14, none⟩)) (ex_fa rfl (ev s11 rfl) (MBox.faDraw _ _)) hz (fun Yct zz kk s93 => ?_)
    replace s2 := ku s2
    replace s4 := ku s4
    replace s8 := ku s8
    replace s9 := ku s9
    replace s10 := ku s10
    replace s11 := ku s11
    replace s92 := ku s92
    replace hz := zz
    clear kk zz Ycs
    refine vs (sets z1 qm 14 [.int .u64 (rD l X.s).1, .int .u64 (rD l X.s).2]) (want_none rfl) (ex_st rfl (ev s93 rfl) (ev s92 rfl) (MM.stAt 33 14 [.int .u64 (rD l X.s).1, .int .u64 (rD l X.s).2] (by show 14 + 2 ≤ 18; omega) (by kernel_rfl) (by kernel_rfl))) rfl ?_
    have SP := MM.splice 14 [.int .u64 (rD l X.s).1, .int .u64 (rD l X.s).2] { X.m with d := rD l X.s } sv tv (by show _ + _ ≤ 18; simp) rfl
    obtain ⟨z2, hz2⟩ : ∃ y, y = sets z1 qm 14 [.int .u64 (rD l X.s).1, .int .u64 (rD l X.s).2] := ⟨_, rfl⟩
    rw [← hz2] at SP ⊢
    clear hz2
    have QN := QR.ub (S := fun x => x = qm) SP.2 (fun x hx => by omega)
    have OLN := OL.far (S := fun x => x = qm) SP.2 (fun x hx => by omega)
    have ODN := OD.far (S := fun x => x = qm) SP.2 (fun x hx => by omega)
    have HUN := HUR.trans (SP.2.mono (fun x _ (hx : x = qm) => .inr (by omega)))
    have hzR2 := HUN.size
    clear QR OL OD HUR MM hzR
    have hzR := hzR2
    clear hzR2
    have QR := QN
    have OL := OLN
    have OD := ODN
    have HUR := HUN
    have MM := SP.1
    clear QN OLN ODN HUN SP
    clear s92 s93
    refine wpList_nil ?_
    exact ⟨_, rfl, hz, s2, s4, s8, s9, s10, s11, by rw [hX]; exact ⟨QR, ⟨sv, tv, MM, OL, OD⟩, HUR⟩⟩
  · clear hz s2 s4 s8 s9 s10 s11 s90 QR MSR HUR
    intro T5c w5c hJ
    obtain ⟨hz, s2, s4, s8, s9, s10, s11, HI⟩ := hJ
    obtain ⟨QR, MSR, HUR⟩ := HI.out
    clear HI
    go_upto_region 27 with fail
    refine wp_region_lit ?_
    refine vt _ (ex_move rfl (ev s10 rfl)) hz (fun Ycu zz kk s94 => ?_)
    replace s2 := ku s2
    replace s4 := ku s4
    replace s8 := ku s8
    replace s9 := ku s9
    replace s10 := ku s10
    replace s11 := ku s11
    replace hz := zz
    clear kk zz
    refine vt (.pointer (some ⟨gu, 6, none⟩)) (ex_ix rfl (ev s94 rfl) rfl (by exact ixBool gu 6 10 cu (by omega) _)) hz (fun Ycv zz kk s95 => ?_)
    replace s2 := ku s2
    replace s4 := ku s4
    replace s8 := ku s8
    replace s9 := ku s9
    replace s10 := ku s10
    replace s11 := ku s11
    replace hz := zz
    clear kk zz s94 Ycu
    refine vt (.bool (!decide ((tabA k 6 : Int) = 0))) (ex_ld rfl (ev s95 rfl) (ldBool (HCU 6 (by omega) _ HUR))) hz (fun Ycw zz kk s96 => ?_)
    replace s2 := ku s2
    replace s4 := ku s4
    replace s8 := ku s8
    replace s9 := ku s9
    replace s10 := ku s10
    replace s11 := ku s11
    replace hz := zz
    clear kk zz s95 Ycv
    refine wpList_nil ?_
    go_upto_region 28 with fail
    refine v_cond (fun T wr => T.size = 169 ∧ T[2]? = some (gw true (.pointer (some ⟨w.heap.size, 0, none⟩))) ∧ T[4]? = some (gw true (.pointer (some ⟨(w.heap.size + 1), 0, none⟩))) ∧ T[8]? = some (gw true (.pointer (some ⟨b, 0, none⟩))) ∧ T[9]? = some (gw true (.int .i64 (k : Int))) ∧ T[10]? = some (gw true (.slice (some ⟨gu, 0, none⟩) 10 cu)) ∧ T[11]? = some (gw true (.pointer (some ⟨qm, 0, none⟩))) ∧ Hid (QD (b + 1) wr b l (rCols l k x0 7).s ∧ MS wr qm (rCols l k x0 7).m (rCols l k x0 7).L (rCols l k x0 7).D ∧ Upd (fun x => x = b ∨ qm ≤ x) y7 wr)) s96 (fun hu => ?_) (fun hu => ⟨hz, s2, s4, s8, s9, s10, s11, by rw [rCols_none (show tabA k 6 = 0 by have h0 : ((tabA k 6 : Nat) : Int) = 0 := (by simpa using hu); omega)]; exact ⟨QR, MSR, HUR⟩⟩) ?_
    · clear s96
      have ht : ¬ tabA k 6 = 0 := by intro h0; rw [h0] at hu; simp at hu
      have hX := rCols_some (l := l) (x := x0) ht
      obtain ⟨X, hXe⟩ : ∃ X, X = rCols l k x0 6 := ⟨_, rfl⟩
      rw [← hXe] at QR MSR hX
      clear hu
      have hzR := HUR.size
      obtain ⟨sv, tv, MM, OL, OD⟩ := MSR
      rw [us_op hK ht, rCol6] at hX
      go_upto_region 28 with fail
      refine wp_region_lit ?_
      refine vt _ (ex_move rfl (ev s8 rfl)) hz (fun Ycx zz kk s97 => ?_)
      replace s2 := ku s2
      replace s4 := ku s4
      replace s8 := ku s8
      replace s9 := ku s9
      replace s10 := ku s10
      replace s11 := ku s11
      replace hz := zz
      clear kk zz
      refine vt _ (ex_move rfl (ev s9 rfl)) hz (fun Ycy zz kk s98 => ?_)
      replace s2 := ku s2
      replace s4 := ku s4
      replace s8 := ku s8
      replace s9 := ku s9
      replace s10 := ku s10
      replace s11 := ku s11
      replace s97 := ku s97
      replace hz := zz
      clear kk zz Ycx
      refine vt (.bool (!decide ((k : Int) = 2))) (ex_bin rfl (ev s98 rfl) rfl (neqC _ _ _ _ _)) hz (fun Ycz zz kk s99 => ?_)
      replace s2 := ku s2
      replace s4 := ku s4
      replace s8 := ku s8
      replace s9 := ku s9
      replace s10 := ku s10
      replace s11 := ku s11
      replace s97 := ku s97
      replace hz := zz
      clear kk zz s98 Ycy
      refine vt _ (ex_move rfl (ev s99 rfl)) hz (fun Yc0 zz kk s100 => ?_)
      replace s2 := ku s2
      replace s4 := ku s4
      replace s8 := ku s8
      replace s9 := ku s9
      replace s10 := ku s10
      replace s11 := ku s11
      replace s97 := ku s97
      replace hz := zz
      clear kk zz s99 Ycz
      refine vl _ _ (want_g rfl rfl s100) (fun hc => ex_move rfl (ev s9 rfl)) rfl hz (by decide) (fun Yc1 zz kk s101 => ?_)
      replace s2 := ku s2
      replace s4 := ku s4
      replace s8 := ku s8
      replace s9 := ku s9
      replace s10 := ku s10
      replace s11 := ku s11
      replace s97 := ku s97
      replace s100 := ku s100
      replace hz := zz
      clear kk zz Yc0
      refine vl _ (.bool (!decide ((k : Int) = 14))) (want_g rfl rfl s100) (fun hc => ex_bin rfl (ev s101 hc) rfl (neqC _ _ _ _ _)) rfl hz (by decide) (fun Yc2 zz kk s102 => ?_)
      replace s2 := ku s2
      replace s4 := ku s4
      replace s8 := ku s8
      replace s9 := ku s9
      replace s10 := ku s10
      replace s11 := ku s11
      replace s97 := ku s97
      replace s100 := ku s100
      replace hz := zz
      clear kk zz s101 Yc1
      refine vt (.bool ((!decide ((k : Int) = 2)) && (!decide ((k : Int) = 14)))) (ex_and rfl s100 s102 rfl) hz (fun Yc3 zz kk s103 => ?_)
      replace s2 := ku s2
      replace s4 := ku s4
      replace s8 := ku s8
      replace s9 := ku s9
      replace s10 := ku s10
      replace s11 := ku s11
      replace s97 := ku s97
      replace hz := zz
      clear kk zz s100 s102 Yc2
      refine vcallP (want_none rfl) (ex_call rfl (by simp only [List.map_toArray, List.map_cons, List.map_nil, (ev s97 rfl), (ev s103 rfl), evc] <;> rfl) rfl) (qentry2 (b + 1) b ((!decide ((k : Int) = 2)) && (!decide ((k : Int) = 14))) l X.s _ QR) rfl hz (by decide) ?_
      rintro e z1 ⟨rfl, QN, hu1⟩; have hzN := hu1.size
      refine ⟨_, rfl, fun Yc4 zz kk s104 => ?_⟩
      have MMN := MM.upd hu1 (by omega)
      have OLN := OL.far hu1 (fun x hx => by omega)
      have ODN := OD.far hu1 (fun x hx => by omega)
      have HUN := HUR.trans (hu1.mono (fun x _ hx => .inl hx))
      have hzR2 := HUN.size
      clear QR OL OD HUR MM hu1 hzN hzR
      have QR := QN
      have OL := OLN
      have OD := ODN
      have HUR := HUN
      have MM := MMN
      have hzR := hzR2
      clear QN OLN ODN HUN MMN hzR2
      replace s2 := ku s2
      replace s4 := ku s4
      replace s8 := ku s8
      replace s9 := ku s9
      replace s10 := ku s10
      replace s11 := ku s11
      replace hz := zz
      clear kk zz s97 s103 Yc3
      refine vt (.pointer (some ⟨qm, 3, none⟩)) (ex_fa rfl (ev s11 rfl) (MBox.faEntry _ _)) hz (fun Yc5 zz kk s105 => ?_)
      replace s2 := ku s2
      replace s4 := ku s4
      replace s8 := ku s8
      replace s9 := ku s9
      replace s10 := ku s10
      replace s11 := ku s11
      replace s104 := ku s104
      replace hz := zz
      clear kk zz Yc4
      refine vs (sets z1 qm 3 [.int .i64 (rEo ((!decide ((k : Int) = 2)) && (!decide ((k : Int) = 14))) l X.s).c, .int .i64 (rEo ((!decide ((k : Int) = 2)) && (!decide ((k : Int) = 14))) l X.s).n, .int .i64 (rEo ((!decide ((k : Int) = 2)) && (!decide ((k : Int) = 14))) l X.s).o.k, .int .i64 (rEo ((!decide ((k : Int) = 2)) && (!decide ((k : Int) = 14))) l X.s).o.s, .string (rEo ((!decide ((k : Int) = 2)) && (!decide ((k : Int) = 14))) l X.s).o.v]) (want_none rfl) (ex_st rfl (ev s105 rfl) (ev s104 rfl) (MM.stAt 28 3 [.int .i64 (rEo ((!decide ((k : Int) = 2)) && (!decide ((k : Int) = 14))) l X.s).c, .int .i64 (rEo ((!decide ((k : Int) = 2)) && (!decide ((k : Int) = 14))) l X.s).n, .int .i64 (rEo ((!decide ((k : Int) = 2)) && (!decide ((k : Int) = 14))) l X.s).o.k, .int .i64 (rEo ((!decide ((k : Int) = 2)) && (!decide ((k : Int) = 14))) l X.s).o.s, .string (rEo ((!decide ((k : Int) = 2)) && (!decide ((k : Int) = 14))) l X.s).o.v] (by show 3 + 5 ≤ 18; omega) (by kernel_rfl) (by kernel_rfl))) rfl ?_
      have SP := MM.splice 3 [.int .i64 (rEo ((!decide ((k : Int) = 2)) && (!decide ((k : Int) = 14))) l X.s).c, .int .i64 (rEo ((!decide ((k : Int) = 2)) && (!decide ((k : Int) = 14))) l X.s).n, .int .i64 (rEo ((!decide ((k : Int) = 2)) && (!decide ((k : Int) = 14))) l X.s).o.k, .int .i64 (rEo ((!decide ((k : Int) = 2)) && (!decide ((k : Int) = 14))) l X.s).o.s, .string (rEo ((!decide ((k : Int) = 2)) && (!decide ((k : Int) = 14))) l X.s).o.v] { X.m with e := (rEo ((!decide ((k : Int) = 2)) && (!decide ((k : Int) = 14))) l X.s) } sv tv (by show _ + _ ≤ 18; simp) rfl
      obtain ⟨z2, hz2⟩ : ∃ y, y = sets z1 qm 3 [.int .i64 (rEo ((!decide ((k : Int) = 2)) && (!decide ((k : Int) = 14))) l X.s).c, .int .i64 (rEo ((!decide ((k : Int) = 2)) && (!decide ((k : Int) = 14))) l X.s).n, .int .i64 (rEo ((!decide ((k : Int) = 2)) && (!decide ((k : Int) = 14))) l X.s).o.k, .int .i64 (rEo ((!decide ((k : Int) = 2)) && (!decide ((k : Int) = 14))) l X.s).o.s, .string (rEo ((!decide ((k : Int) = 2)) && (!decide ((k : Int) = 14))) l X.s).o.v] := ⟨_, rfl⟩
      rw [← hz2] at SP ⊢
      clear hz2
      have QN := QR.ub (S := fun x => x = qm) SP.2 (fun x hx => by omega)
      have OLN := OL.far (S := fun x => x = qm) SP.2 (fun x hx => by omega)
      have ODN := OD.far (S := fun x => x = qm) SP.2 (fun x hx => by omega)
      have HUN := HUR.trans (SP.2.mono (fun x _ (hx : x = qm) => .inr (by omega)))
      have hzR2 := HUN.size
      clear QR OL OD HUR MM hzR
      have hzR := hzR2
      clear hzR2
      have QR := QN
      have OL := OLN
      have OD := ODN
      have HUR := HUN
      have MM := SP.1
      clear QN OLN ODN HUN SP
      clear s104 s105
      refine wpList_nil ?_
      exact ⟨_, rfl, hz, s2, s4, s8, s9, s10, s11, by rw [hX]; exact ⟨QR, ⟨sv, tv, MM, OL, OD⟩, HUR⟩⟩
    · clear hz s2 s4 s8 s9 s10 s11 s96 QR MSR HUR
      intro T6c w6c hJ
      obtain ⟨hz, s2, s4, s8, s9, s10, s11, HI⟩ := hJ
      obtain ⟨QR, MSR, HUR⟩ := HI.out
      clear HI
      go_upto_region 29 with fail
      refine wp_region_lit ?_
      refine vt _ (ex_move rfl (ev s10 rfl)) hz (fun Yc6 zz kk s106 => ?_)
      replace s2 := ku s2
      replace s4 := ku s4
      replace s8 := ku s8
      replace s9 := ku s9
      replace s10 := ku s10
      replace s11 := ku s11
      replace hz := zz
      clear kk zz
      refine vt (.pointer (some ⟨gu, 7, none⟩)) (ex_ix rfl (ev s106 rfl) rfl (by exact ixBool gu 7 10 cu (by omega) _)) hz (fun Yc7 zz kk s107 => ?_)
      replace s2 := ku s2
      replace s4 := ku s4
      replace s8 := ku s8
      replace s9 := ku s9
      replace s10 := ku s10
      replace s11 := ku s11
      replace hz := zz
      clear kk zz s106 Yc6
      refine vt (.bool (!decide ((tabA k 7 : Int) = 0))) (ex_ld rfl (ev s107 rfl) (ldBool (HCU 7 (by omega) _ HUR))) hz (fun Yc8 zz kk s108 => ?_)
      replace s2 := ku s2
      replace s4 := ku s4
      replace s8 := ku s8
      replace s9 := ku s9
      replace s10 := ku s10
      replace s11 := ku s11
      replace hz := zz
      clear kk zz s107 Yc7
      refine wpList_nil ?_
      go_upto_region 30 with fail
      refine v_cond (fun T wr => T.size = 169 ∧ T[2]? = some (gw true (.pointer (some ⟨w.heap.size, 0, none⟩))) ∧ T[4]? = some (gw true (.pointer (some ⟨(w.heap.size + 1), 0, none⟩))) ∧ T[8]? = some (gw true (.pointer (some ⟨b, 0, none⟩))) ∧ T[9]? = some (gw true (.int .i64 (k : Int))) ∧ T[10]? = some (gw true (.slice (some ⟨gu, 0, none⟩) 10 cu)) ∧ T[11]? = some (gw true (.pointer (some ⟨qm, 0, none⟩))) ∧ Hid (QD (b + 1) wr b l (rCols l k x0 8).s ∧ MS wr qm (rCols l k x0 8).m (rCols l k x0 8).L (rCols l k x0 8).D ∧ Upd (fun x => x = b ∨ qm ≤ x) y7 wr)) s108 (fun hu => ?_) (fun hu => ⟨hz, s2, s4, s8, s9, s10, s11, by rw [rCols_none (show tabA k 7 = 0 by have h0 : ((tabA k 7 : Nat) : Int) = 0 := (by simpa using hu); omega)]; exact ⟨QR, MSR, HUR⟩⟩) ?_
      · clear s108
        have ht : ¬ tabA k 7 = 0 := by intro h0; rw [h0] at hu; simp at hu
        have hX := rCols_some (l := l) (x := x0) ht
        obtain ⟨X, hXe⟩ : ∃ X, X = rCols l k x0 7 := ⟨_, rfl⟩
        rw [← hXe] at QR MSR hX
        clear hu
        have hzR := HUR.size
        obtain ⟨sv, tv, MM, OL, OD⟩ := MSR
        go_upto_region 30 with fail
        refine wp_region_lit ?_
        refine vt _ (ex_move rfl (ev s8 rfl)) hz (fun Yc9 zz kk s109 => ?_)
        replace s2 := ku s2
        replace s4 := ku s4
        replace s8 := ku s8
        replace s9 := ku s9
        replace s10 := ku s10
        replace s11 := ku s11
        replace hz := zz
        clear kk zz
        refine vcallP (want_none rfl) (ex_call rfl (by simp only [List.map_toArray, List.map_cons, List.map_nil, (ev s109 rfl), evc] <;> rfl) rfl) (qd_I (b + 1) b mxI (Int.le_refl _) l X.s _ QR) rfl hz (by decide) ?_
        rintro e z1 ⟨rfl, QN, hu1⟩; have hzN := hu1.size
        refine ⟨_, rfl, fun Yda zz kk s110 => ?_⟩
        have MMN := MM.upd hu1 (by omega)
        have OLN := OL.far hu1 (fun x hx => by omega)
        have ODN := OD.far hu1 (fun x hx => by omega)
        have HUN := HUR.trans (hu1.mono (fun x _ hx => .inl hx))
        have hzR2 := HUN.size
        clear QR OL OD HUR MM hu1 hzN hzR
        have QR := QN
        have OL := OLN
        have OD := ODN
        have HUR := HUN
        have MM := MMN
        have hzR := hzR2
        clear QN OLN ODN HUN MMN hzR2
        replace s2 := ku s2
        replace s4 := ku s4
        replace s8 := ku s8
        replace s9 := ku s9
        replace s10 := ku s10
        replace s11 := ku s11
        replace hz := zz
        clear kk zz s109 Yc9
        refine vt (.pointer (some ⟨qm, 8, none⟩)) (ex_fa rfl (ev s11 rfl) (MBox.faResult _ _)) hz (fun Ydb zz kk s111 => ?_)
        replace s2 := ku s2
        replace s4 := ku s4
        replace s8 := ku s8
        replace s9 := ku s9
        replace s10 := ku s10
        replace s11 := ku s11
        replace s110 := ku s110
        replace hz := zz
        clear kk zz Yda
        refine vt (.pointer (some ⟨qm, 8, none⟩)) (ex_fa rfl (ev s111 rfl) (faRes _ _).1) hz (fun Ydc zz kk s112 => ?_)
        replace s2 := ku s2
        replace s4 := ku s4
        replace s8 := ku s8
        replace s9 := ku s9
        replace s10 := ku s10
        replace s11 := ku s11
        replace s110 := ku s110
        replace hz := zz
        clear kk zz s111 Ydb
        refine vs (sets z1 qm 8 [.int .i64 (rI mxI l X.s : Int)]) (want_none rfl) (ex_st rfl (ev s112 rfl) (ev s110 rfl) (stInt (rI mxI l X.s : Int) (MM.cell 8 _ rfl) (MM.free 8))) rfl ?_
        have SP := MM.splice 8 [.int .i64 (rI mxI l X.s : Int)] { X.m with r := ((rI mxI l X.s : Int), X.m.r.2.1, X.m.r.2.2) } sv tv (by show _ + _ ≤ 18; simp) rfl
        obtain ⟨z2, hz2⟩ : ∃ y, y = sets z1 qm 8 [.int .i64 (rI mxI l X.s : Int)] := ⟨_, rfl⟩
        rw [← hz2] at SP ⊢
        clear hz2
        have QN := QR.ub (S := fun x => x = qm) SP.2 (fun x hx => by omega)
        have OLN := OL.far (S := fun x => x = qm) SP.2 (fun x hx => by omega)
        have ODN := OD.far (S := fun x => x = qm) SP.2 (fun x hx => by omega)
        have HUN := HUR.trans (SP.2.mono (fun x _ (hx : x = qm) => .inr (by omega)))
        have hzR2 := HUN.size
        clear QR OL OD HUR MM hzR
        have hzR := hzR2
        clear hzR2
        have QR := QN
        have OL := OLN
        have OD := ODN
        have HUR := HUN
        have MM := SP.1
        clear QN OLN ODN HUN SP
        clear s110 s112
        refine wpList_nil ?_
        go_upto_region 31 with fail
        refine wp_region_lit ?_
        refine vt _ (ex_move rfl (ev s8 rfl)) hz (fun Ydd zz kk s113 => ?_)
        replace s2 := ku s2
        replace s4 := ku s4
        replace s8 := ku s8
        replace s9 := ku s9
        replace s10 := ku s10
        replace s11 := ku s11
        replace hz := zz
        clear kk zz
        refine vcallP (want_none rfl) (ex_call rfl (by simp only [List.map_toArray, List.map_cons, List.map_nil, (ev s113 rfl), evc] <;> rfl) rfl) (qd_I (b + 1) b mxI (Int.le_refl _) l (sI mxI l X.s) _ QR) rfl hz (by decide) ?_
        rintro e z3 ⟨rfl, QN, hu1⟩; have hzN := hu1.size
        refine ⟨_, rfl, fun Yde zz kk s114 => ?_⟩
        have MMN := MM.upd hu1 (by omega)
        have OLN := OL.far hu1 (fun x hx => by omega)
        have ODN := OD.far hu1 (fun x hx => by omega)
        have HUN := HUR.trans (hu1.mono (fun x _ hx => .inl hx))
        have hzR2 := HUN.size
        clear QR OL OD HUR MM hu1 hzN hzR
        have QR := QN
        have OL := OLN
        have OD := ODN
        have HUR := HUN
        have MM := MMN
        have hzR := hzR2
        clear QN OLN ODN HUN MMN hzR2
        replace s2 := ku s2
        replace s4 := ku s4
        replace s8 := ku s8
        replace s9 := ku s9
        replace s10 := ku s10
        replace s11 := ku s11
        replace hz := zz
        clear kk zz s113 Ydd
        refine vt (.pointer (some ⟨qm, 8, none⟩)) (ex_fa rfl (ev s11 rfl) (MBox.faResult _ _)) hz (fun Ydf zz kk s115 => ?_)
        replace s2 := ku s2
        replace s4 := ku s4
        replace s8 := ku s8
        replace s9 := ku s9
        replace s10 := ku s10
        replace s11 := ku s11
        replace s114 := ku s114
        replace hz := zz
        clear kk zz Yde
        refine vt (.pointer (some ⟨qm, 9, none⟩)) (ex_fa rfl (ev s115 rfl) (faRes _ _).2.1) hz (fun Ydg zz kk s116 => ?_)
        replace s2 := ku s2
        replace s4 := ku s4
        replace s8 := ku s8
        replace s9 := ku s9
        replace s10 := ku s10
        replace s11 := ku s11
        replace s114 := ku s114
        replace hz := zz
        clear kk zz s115 Ydf
        refine vs (sets z3 qm 9 [.int .i64 (rI mxI l (sI mxI l X.s) : Int)]) (want_none rfl) (ex_st rfl (ev s116 rfl) (ev s114 rfl) (stInt (rI mxI l (sI mxI l X.s) : Int) (MM.cell 9 _ rfl) (MM.free 9))) rfl ?_
        have SP := MM.splice 9 [.int .i64 (rI mxI l (sI mxI l X.s) : Int)] { X.m with r := ((rI mxI l X.s : Int), (rI mxI l (sI mxI l X.s) : Int), X.m.r.2.2) } sv tv (by show _ + _ ≤ 18; simp) rfl
        obtain ⟨z4, hz4⟩ : ∃ y, y = sets z3 qm 9 [.int .i64 (rI mxI l (sI mxI l X.s) : Int)] := ⟨_, rfl⟩
        rw [← hz4] at SP ⊢
        clear hz4
        have QN := QR.ub (S := fun x => x = qm) SP.2 (fun x hx => by omega)
        have OLN := OL.far (S := fun x => x = qm) SP.2 (fun x hx => by omega)
        have ODN := OD.far (S := fun x => x = qm) SP.2 (fun x hx => by omega)
        have HUN := HUR.trans (SP.2.mono (fun x _ (hx : x = qm) => .inr (by omega)))
        have hzR2 := HUN.size
        clear QR OL OD HUR MM hzR
        have hzR := hzR2
        clear hzR2
        have QR := QN
        have OL := OLN
        have OD := ODN
        have HUR := HUN
        have MM := SP.1
        clear QN OLN ODN HUN SP
        clear s114 s116
        refine wpList_nil ?_
        go_upto_region 32 with fail
        refine wp_region_lit ?_
        refine vt _ (ex_move rfl (ev s8 rfl)) hz (fun Ydh zz kk s117 => ?_)
        replace s2 := ku s2
        replace s4 := ku s4
        replace s8 := ku s8
        replace s9 := ku s9
        replace s10 := ku s10
        replace s11 := ku s11
        replace hz := zz
        clear kk zz
        refine vcallP (want_none rfl) (ex_call rfl (by simp only [List.map_toArray, List.map_cons, List.map_nil, (ev s117 rfl), evc] <;> rfl) rfl) (qd_T (b + 1) b l (sI mxI l (sI mxI l X.s)) _ QR) rfl hz (by decide) ?_
        rintro e z5 ⟨rfl, QN, hu1⟩; have hzN := hu1.size
        refine ⟨_, rfl, fun Ydi zz kk s118 => ?_⟩
        have MMN := MM.upd hu1 (by omega)
        have OLN := OL.far hu1 (fun x hx => by omega)
        have ODN := OD.far hu1 (fun x hx => by omega)
        have HUN := HUR.trans (hu1.mono (fun x _ hx => .inl hx))
        have hzR2 := HUN.size
        clear QR OL OD HUR MM hu1 hzN hzR
        have QR := QN
        have OL := OLN
        have OD := ODN
        have HUR := HUN
        have MM := MMN
        have hzR := hzR2
        clear QN OLN ODN HUN MMN hzR2
        replace s2 := ku s2
        replace s4 := ku s4
        replace s8 := ku s8
        replace s9 := ku s9
        replace s10 := ku s10
        replace s11 := ku s11
        replace hz := zz
        clear kk zz s117 Ydh
        refine vt (.pointer (some ⟨qm, 8, none⟩)) (ex_fa rfl (ev s11 rfl) (MBox.faResult _ _)) hz (fun Ydj zz kk s119 => ?_)
        replace s2 := ku s2
        replace s4 := ku s4
        replace s8 := ku s8
        replace s9 := ku s9
        replace s10 := ku s10
        replace s11 := ku s11
        replace s118 := ku s118
        replace hz := zz
        clear kk zz Ydi
        refine vt (.pointer (some ⟨qm, 10, none⟩)) (ex_fa rfl (ev s119 rfl) (faRes _ _).2.2) hz (fun Ydk zz kk s120 => ?_)
        replace s2 := ku s2
        replace s4 := ku s4
        replace s8 := ku s8
        replace s9 := ku s9
        replace s10 := ku s10
        replace s11 := ku s11
        replace s118 := ku s118
        replace hz := zz
        clear kk zz s119 Ydj
        refine vs (sets z5 qm 10 [.string (rT l (sI mxI l (sI mxI l X.s)))]) (want_none rfl) (ex_st rfl (ev s120 rfl) (ev s118 rfl) (stStr (rT l (sI mxI l (sI mxI l X.s))) (MM.cell 10 _ rfl) (MM.free 10))) rfl ?_
        have SP := MM.splice 10 [.string (rT l (sI mxI l (sI mxI l X.s)))] { X.m with r := ((rI mxI l X.s : Int), (rI mxI l (sI mxI l X.s) : Int), (rT l (sI mxI l (sI mxI l X.s)))) } sv tv (by show _ + _ ≤ 18; simp) rfl
        obtain ⟨z6, hz6⟩ : ∃ y, y = sets z5 qm 10 [.string (rT l (sI mxI l (sI mxI l X.s)))] := ⟨_, rfl⟩
        rw [← hz6] at SP ⊢
        clear hz6
        have QN := QR.ub (S := fun x => x = qm) SP.2 (fun x hx => by omega)
        have OLN := OL.far (S := fun x => x = qm) SP.2 (fun x hx => by omega)
        have ODN := OD.far (S := fun x => x = qm) SP.2 (fun x hx => by omega)
        have HUN := HUR.trans (SP.2.mono (fun x _ (hx : x = qm) => .inr (by omega)))
        have hzR2 := HUN.size
        clear QR OL OD HUR MM hzR
        have hzR := hzR2
        clear hzR2
        have QR := QN
        have OL := OLN
        have OD := ODN
        have HUR := HUN
        have MM := SP.1
        clear QN OLN ODN HUN SP
        clear s118 s120
        refine wpList_nil ?_
        exact ⟨_, rfl, hz, s2, s4, s8, s9, s10, s11, by rw [hX]; exact ⟨QR, ⟨sv, tv, MM, OL, OD⟩, HUR⟩⟩
      · clear hz s2 s4 s8 s9 s10 s11 s108 QR MSR HUR
        intro T7c w7c hJ
        obtain ⟨hz, s2, s4, s8, s9, s10, s11, HI⟩ := hJ
        obtain ⟨QR, MSR, HUR⟩ := HI.out
        clear HI
        go_upto_region 33 with fail
        refine wp_region_lit ?_
        refine vt _ (ex_move rfl (ev s10 rfl)) hz (fun Ydl zz kk s121 => ?_)
        replace s2 := ku s2
        replace s4 := ku s4
        replace s8 := ku s8
        replace s9 := ku s9
        replace s10 := ku s10
        replace s11 := ku s11
        replace hz := zz
        clear kk zz
        refine vt (.pointer (some ⟨gu, 8, none⟩)) (ex_ix rfl (ev s121 rfl) rfl (by exact ixBool gu 8 10 cu (by omega) _)) hz (fun Ydm zz kk s122 => ?_)
        replace s2 := ku s2
        replace s4 := ku s4
        replace s8 := ku s8
        replace s9 := ku s9
        replace s10 := ku s10
        replace s11 := ku s11
        replace hz := zz
        clear kk zz s121 Ydl
        refine vt (.bool (!decide ((tabA k 8 : Int) = 0))) (ex_ld rfl (ev s122 rfl) (ldBool (HCU 8 (by omega) _ HUR))) hz (fun Ydn zz kk s123 => ?_)
        replace s2 := ku s2
        replace s4 := ku s4
        replace s8 := ku s8
        replace s9 := ku s9
        replace s10 := ku s10
        replace s11 := ku s11
        replace hz := zz
        clear kk zz s122 Ydm
        refine wpList_nil ?_
        go_upto_region 34 with fail
        refine v_cond (fun T wr => T.size = 169 ∧ T[2]? = some (gw true (.pointer (some ⟨w.heap.size, 0, none⟩))) ∧ T[4]? = some (gw true (.pointer (some ⟨(w.heap.size + 1), 0, none⟩))) ∧ T[8]? = some (gw true (.pointer (some ⟨b, 0, none⟩))) ∧ T[9]? = some (gw true (.int .i64 (k : Int))) ∧ T[10]? = some (gw true (.slice (some ⟨gu, 0, none⟩) 10 cu)) ∧ T[11]? = some (gw true (.pointer (some ⟨qm, 0, none⟩))) ∧ Hid (QD (b + 1) wr b l (rCols l k x0 9).s ∧ MS wr qm (rCols l k x0 9).m (rCols l k x0 9).L (rCols l k x0 9).D ∧ Upd (fun x => x = b ∨ qm ≤ x) y7 wr)) s123 (fun hu => ?_) (fun hu => ⟨hz, s2, s4, s8, s9, s10, s11, by rw [rCols_none (show tabA k 8 = 0 by have h0 : ((tabA k 8 : Nat) : Int) = 0 := (by simpa using hu); omega)]; exact ⟨QR, MSR, HUR⟩⟩) ?_
        · clear s123
          have ht : ¬ tabA k 8 = 0 := by intro h0; rw [h0] at hu; simp at hu
          have hX := rCols_some (l := l) (x := x0) ht
          obtain ⟨X, hXe⟩ : ∃ X, X = rCols l k x0 8 := ⟨_, rfl⟩
          rw [← hXe] at QR MSR hX
          clear hu
          have hzR := HUR.size
          have hX0 : X.L = [] := by rw [hXe]; exact rcL l k x0 hx0L 8 (by omega)
          have hn256 : (rI 256 l X.s) ≤ 256 := rI_le 256 (by decide) l X.s
          obtain ⟨sv, tv, MM, OL, OD⟩ := MSR
          go_upto_region 34 with fail
          refine wp_region_lit ?_
          refine vt _ (ex_move rfl (ev s8 rfl)) hz (fun Ydo zz kk s124 => ?_)
          replace s2 := ku s2
          replace s4 := ku s4
          replace s8 := ku s8
          replace s9 := ku s9
          replace s10 := ku s10
          replace s11 := ku s11
          replace hz := zz
          clear kk zz
          refine vcallP (want_none rfl) (ex_call rfl (by simp only [List.map_toArray, List.map_cons, List.map_nil, (ev s124 rfl), evc] <;> rfl) rfl) (qd_I (b + 1) b 256 (by decide) l X.s _ QR) rfl hz (by decide) ?_
          rintro e z1 ⟨rfl, QN, hu1⟩; have hzN := hu1.size
          refine ⟨_, rfl, fun Ydp zz kk s125 => ?_⟩
          have MMN := MM.upd hu1 (by omega)
          have OLN := OL.far hu1 (fun x hx => by omega)
          have ODN := OD.far hu1 (fun x hx => by omega)
          have HUN := HUR.trans (hu1.mono (fun x _ hx => .inl hx))
          have hzR2 := HUN.size
          clear QR OL OD HUR MM hu1 hzN hzR
          have QR := QN
          have OL := OLN
          have OD := ODN
          have HUR := HUN
          have MM := MMN
          have hzR := hzR2
          clear QN OLN ODN HUN MMN hzR2
          replace s2 := ku s2
          replace s4 := ku s4
          replace s8 := ku s8
          replace s9 := ku s9
          replace s10 := ku s10
          replace s11 := ku s11
          replace hz := zz
          clear kk zz s124 Ydo
          refine vt _ (ex_assign rfl (ev s125 rfl)) hz (fun Ydq zz kk s14 => ?_)
          replace s2 := ku s2
          replace s4 := ku s4
          replace s8 := ku s8
          replace s9 := ku s9
          replace s10 := ku s10
          replace s11 := ku s11
          replace hz := zz
          clear kk zz s125 Ydp
          refine wpList_nil ?_
          go_upto_region 35 with fail
          refine wp_region_lit ?_
          refine vt (.int .i64 0) (ex_assign rfl rfl) hz (fun Ydr zz kk s15 => ?_)
          replace s2 := ku s2
          replace s4 := ku s4
          replace s8 := ku s8
          replace s9 := ku s9
          replace s10 := ku s10
          replace s11 := ku s11
          replace s14 := ku s14
          replace hz := zz
          clear kk zz
          refine wpList_nil ?_
          go_upto_region 36 with fail
          refine v_loop 15 (rI 256 l X.s) (fun t T wr => T.size = 169 ∧ T[2]? = some (gw true (.pointer (some ⟨w.heap.size, 0, none⟩))) ∧ T[4]? = some (gw true (.pointer (some ⟨(w.heap.size + 1), 0, none⟩))) ∧ T[8]? = some (gw true (.pointer (some ⟨b, 0, none⟩))) ∧ T[9]? = some (gw true (.int .i64 (k : Int))) ∧ T[10]? = some (gw true (.slice (some ⟨gu, 0, none⟩) 10 cu)) ∧ T[11]? = some (gw true (.pointer (some ⟨qm, 0, none⟩))) ∧ T[14]? = some (gw true (.int .i64 ((rI 256 l X.s) : Int))) ∧ T[15]? = some (gw true (.int .i64 (t : Int))) ∧ Hid (QD (b + 1) wr b l (esS l (sI 256 l X.s) t) ∧ MS wr qm X.m (esL l (sI 256 l X.s) t) X.D ∧ Upd (fun x => x = b ∨ qm ≤ x) y7 wr)) (fun t T w h => h.2.2.2.2.2.2.2.2.1) ⟨hz, s2, s4, s8, s9, s10, s11, s14, s15, QR, ⟨sv, tv, MM, by rw [hX0] at OL; exact OL, OD⟩, HUR⟩ ?_
          clear hz s2 s4 s8 s9 s10 s11 s14 s15 QR MM OL OD HUR hzR
          intro t R0 wr ht0 hh
          obtain ⟨hz, s2, s4, s8, s9, s10, s11, s14, s15, HI⟩ := hh
          obtain ⟨QR, ⟨sv, tv, MM, OL, OD⟩, HUR⟩ := HI.out
          clear HI
          have hzR := HUR.size
          go_upto_region 36 with fail
          refine wp_region_lit ?_
          refine vt _ (ex_move rfl (ev s15 rfl)) hz (fun Yds zz kk s126 => ?_)
          replace s2 := ku s2
          replace s4 := ku s4
          replace s8 := ku s8
          replace s9 := ku s9
          replace s10 := ku s10
          replace s11 := ku s11
          replace s14 := ku s14
          replace s15 := ku s15
          replace hz := zz
          clear kk zz
          refine vt _ (ex_move rfl (ev s14 rfl)) hz (fun Ydt zz kk s127 => ?_)
          replace s2 := ku s2
          replace s4 := ku s4
          replace s8 := ku s8
          replace s9 := ku s9
          replace s10 := ku s10
          replace s11 := ku s11
          replace s14 := ku s14
          replace s15 := ku s15
          replace s126 := ku s126
          replace hz := zz
          clear kk zz Yds
          refine vt (.bool (decide ((t : Int) < ((rI 256 l X.s) : Int)))) (ex_bin rfl (ev s126 rfl) (ev s127 rfl) (lssC _ _ _ _ _)) hz (fun Ydu zz kk s128 => ?_)
          replace s2 := ku s2
          replace s4 := ku s4
          replace s8 := ku s8
          replace s9 := ku s9
          replace s10 := ku s10
          replace s11 := ku s11
          replace s14 := ku s14
          replace s15 := ku s15
          replace hz := zz
          clear kk zz s126 s127 Ydt
          refine wpList_nil ?_
          go_upto_region 38 with fail
          cases e8 : decide ((t : Int) < ((rI 256 l X.s) : Int))
          rotate_left
          · refine wp_cond_true ((ev s128 rfl).trans (congrArg Value.bool e8)) ?_
            have hlt : t < (rI 256 l X.s) := by have := of_decide_eq_true e8; omega
            clear s128 e8
            go_upto_region 38 with fail
            refine vh_start (fun _ => True) (by kernel_rfl) ?_
            have QRd := QR.later (Below.refl _ _).drew
            have MMd := MM.bel (Below.refl _ _).drew
            have OLd := OwnY.grow OL (Below.refl _ _).drew
            have ODd := OwnY.grow OD (Below.refl _ _).drew
            have HURd := HUR.trans (Upd.of_below (Below.refl _ _).drew)
            have hzRd : y7.heap.size ≤ wr.drew.heap.size := hzR
            clear QR MM OL OD HUR
            obtain ⟨wd, hwd⟩ : ∃ y, y = wr.drew := ⟨_, rfl⟩
            rw [← hwd] at QRd MMd OLd ODd HURd hzRd ⊢
            clear hwd hzR
            refine vh_take 0 true (.pointer (some ⟨qm, 16, none⟩)) rfl (by kernel_rfl) (by kernel_rfl) (by kernel_rfl) (want_none rfl) (fun hc v hv => ex_fa rfl (ev s11 rfl) (MBox.faLog _ _)) rfl hz (by decide) trivial (fun L8_1 zz kk s131 => ?_)
            replace s2 := ku s2
            replace s4 := ku s4
            replace s8 := ku s8
            replace s9 := ku s9
            replace s10 := ku s10
            replace s11 := ku s11
            replace s14 := ku s14
            replace s15 := ku s15
            replace hz := zz
            clear kk zz
            refine vh_take 2 true (.pointer (some ⟨b, 0, none⟩)) rfl (by kernel_rfl) (by kernel_rfl) (by kernel_rfl) (want_none rfl) (fun hc v hv => ex_move rfl (ev s8 rfl)) rfl hz (by decide) trivial (fun L8_2 zz kk s133 => ?_)
            replace s2 := ku s2
            replace s4 := ku s4
            replace s8 := ku s8
            replace s9 := ku s9
            replace s10 := ku s10
            replace s11 := ku s11
            replace s14 := ku s14
            replace s15 := ku s15
            replace s131 := ku s131
            replace hz := zz
            clear kk zz
            refine vh_twoR 1 3 (by kernel_rfl) rfl rfl (want_none rfl) (ex_call rfl (by simp only [List.map_toArray, List.map_cons, List.map_nil, (ev s133 rfl), evc] <;> rfl) rfl) (qentry2 (b + 1) b true l (esS l (sI 256 l X.s) t) wd QRd) rfl hz (by decide) ?_ sv wd (want_none rfl) (ex_ld rfl (ev s131 rfl) MMd.ldLog) rfl (by decide) trivial ?_
            · rintro e wc ⟨rfl, QRc, huc⟩
              refine ⟨_, rfl, trivial, fun L8_3 zz kk s134 => ?_⟩
              change _ = some (gw true (enV (rE l (esS l (sI 256 l X.s) t)))) at s134
              replace s2 := ku s2
              replace s4 := ku s4
              replace s8 := ku s8
              replace s9 := ku s9
              replace s10 := ku s10
              replace s11 := ku s11
              replace s14 := ku s14
              replace s15 := ku s15
              replace s131 := ku s131
              replace s133 := ku s133
              replace hz := zz
              clear kk zz
              have MMc := MMd.upd huc (by omega)
              have OLc := OLd.far huc (fun x hx => by omega)
              have ODc := ODd.far huc (fun x hx => by omega)
              have HURc := HURd.trans (huc.mono (fun x _ hx => .inl hx))
              have hzc := huc.size
              clear MMd OLd ODd HURd QRd huc
              obtain ⟨wb, hwb⟩ : ∃ y, y = wc.alloc (.cells (yE.cs (rE l (esS l (sI 256 l X.s) t))).toArray 28) := ⟨_, rfl⟩
              have hbb : Below wc.heap.size wc wb := by rw [hwb]; exact (Below.refl _ _).alloc (Nat.le_refl _) _
              have SB : SlY yE wb (some ⟨wc.heap.size, 0, none⟩) 1 1 [(rE l (esS l (sI 256 l X.s) t))] := by rw [hwb]; exact sl_box wc (rE l (esS l (sI 256 l X.s) t)) _
              refine vh_pair 1 4 (by kernel_rfl) rfl rfl hz sv (want_none rfl) (ex_ld rfl (ev s131 rfl) MMc.ldLog) rfl (by decide) trivial (.slice (some ⟨wc.heap.size, 0, none⟩) 1 1) wb (want_none rfl) (ex_bs rfl (by simp only [List.map_toArray, List.map_cons, List.map_nil, (ev s134 rfl)] <;> rfl) (by rw [hwb]; exact bsE _ _)) rfl (by decide) trivial ?_ ?_
              · intro L8_p1 zz kk s132x
                replace s2 := ku s2
                replace s4 := ku s4
                replace s8 := ku s8
                replace s9 := ku s9
                replace s10 := ku s10
                replace s11 := ku s11
                replace s14 := ku s14
                replace s15 := ku s15
                replace s131 := ku s131
                replace s133 := ku s133
                replace s134 := ku s134
                clear kk hz
                have hz := zz
                have s132 := s132x
                clear zz s132x
                refine vh_val 4 (.slice (some ⟨wc.heap.size, 0, none⟩) 1 1) wb rfl (by kernel_rfl) (want_none rfl) (ex_bs rfl (by simp only [List.map_toArray, List.map_cons, List.map_nil, (ev s134 rfl)] <;> rfl) (by rw [hwb]; exact bsE _ _)) rfl hz (by decide) trivial (fun L8_4 zz kk s135 => ?_)
                replace s2 := ku s2
                replace s4 := ku s4
                replace s8 := ku s8
                replace s9 := ku s9
                replace s10 := ku s10
                replace s11 := ku s11
                replace s14 := ku s14
                replace s15 := ku s15
                replace s131 := ku s131
                replace s133 := ku s133
                replace s134 := ku s134
                replace s132 := ku s132
                replace hz := zz
                clear kk zz
                have hlen : ((esL l (sI 256 l X.s) t)).length = t := by simp [esL]
                obtain ⟨va, wa, hra, oa, ga, na⟩ := run_appY kE wb 34 (qm + 1) _ sv (some ⟨wc.heap.size, 0, none⟩) 1 1 [(rE l (esS l (sI 256 l X.s) t))] SB (OwnY.grow OLc hbb) (by have := hbb.size; omega) (by rw [hlen]; unfold maxLen; omega) (by rw [hlen]; show (t + 1) * 48 ≤ _; omega)
                refine vh_val 5 va wa rfl (by kernel_rfl) (want_none rfl) (ex_app rfl (ev s132 rfl) (ev s135 rfl) hra) rfl hz (by decide) trivial (fun L8_5 zz kk s136 => ?_)
                replace s2 := ku s2
                replace s4 := ku s4
                replace s8 := ku s8
                replace s9 := ku s9
                replace s10 := ku s10
                replace s11 := ku s11
                replace s14 := ku s14
                replace s15 := ku s15
                replace s131 := ku s131
                replace s133 := ku s133
                replace s134 := ku s134
                replace s132 := ku s132
                replace s135 := ku s135
                replace hz := zz
                clear kk zz
                have uA : Upd (fun x => sv.ownBlock = some x) wc wa := (Upd.of_below hbb).trans (gupd9 ga)
                have hqL : ∀ x, sv.ownBlock = some x → qm + 1 ≤ x := fun x hx => (OLc.blk x hx).1
                have MMa := MMc.upd uA (fun e => by have := hqL _ e; omega)
                have QRa := QRc.ub uA (fun x hx e => by have := hqL _ e; omega)
                have OYa := OwnY.upd1 ODc uA (fun g hg e => apart9 OLc ODc (by decide) g e hg)
                have HURa := HURc.trans (uA.mono (fun x _ hx => .inr (by have := hqL _ hx; omega)))
                obtain ⟨vA, vC, hva, _⟩ := oa.form
                subst hva
                clear hra ga na SB hbb hwb uA MMc QRc OLc ODc HURc
                refine vh_take 6 true (.pointer (some ⟨qm, 16, none⟩)) rfl (by kernel_rfl) (by kernel_rfl) (by kernel_rfl) (want_none rfl) (fun hc v hv => ex_fa rfl (ev s11 rfl) (MBox.faLog _ _)) rfl hz (by decide) trivial (fun L8_6 zz kk s137 => ?_)
                replace s2 := ku s2
                replace s4 := ku s4
                replace s8 := ku s8
                replace s9 := ku s9
                replace s10 := ku s10
                replace s11 := ku s11
                replace s14 := ku s14
                replace s15 := ku s15
                replace s131 := ku s131
                replace s133 := ku s133
                replace s134 := ku s134
                replace s132 := ku s132
                replace s135 := ku s135
                replace s136 := ku s136
                replace hz := zz
                clear kk zz
                refine vh_store 7 (sets wa qm 16 [.slice vA ((esL l (sI 256 l X.s) t) ++ [(rE l (esS l (sI 256 l X.s) t))]).length vC]) rfl (by kernel_rfl) (want_none rfl) (ex_st rfl (ev s137 rfl) (ev s136 rfl) (stSlE vA _ vC (MMa.cell 16 _ rfl) (MMa.free 16))) rfl trivial ?_
                have SP := MMa.splice 16 [.slice vA ((esL l (sI 256 l X.s) t) ++ [(rE l (esS l (sI 256 l X.s) t))]).length vC] X.m (.slice vA ((esL l (sI 256 l X.s) t) ++ [(rE l (esS l (sI 256 l X.s) t))]).length vC) tv (by show _ + _ ≤ 18; simp) rfl
                obtain ⟨wz, hwz⟩ : ∃ y, y = sets wa qm 16 [.slice vA ((esL l (sI 256 l X.s) t) ++ [(rE l (esS l (sI 256 l X.s) t))]).length vC] := ⟨_, rfl⟩
                rw [← hwz] at SP ⊢
                clear hwz
                refine vh_done (by kernel_rfl) ?_
                have QZ := QRa.ub (S := fun x => x = qm) SP.2 (fun x hx => by omega)
                have oz := oa.far (S := fun x => x = qm) SP.2 (fun x hx => by omega)
                have OYz := OYa.far (S := fun x => x = qm) SP.2 (fun x hx => by omega)
                have HUZ := HURa.trans (SP.2.mono (fun x _ hx => .inr (by omega)))
                rw [← esL_snoc] at oz SP
                have MSZ : MS wz qm X.m (esL l (sI 256 l X.s) (t + 1)) X.D := ⟨_, _, SP.1, oz, OYz⟩
                have QZ2 : QD (b + 1) wz b l (esS l (sI 256 l X.s) (t + 1)) := QZ
                clear SP oz OYz QZ MMa QRa OYa HURa oa
                clear s131 s133 s134 s132 s135 s136 s137
                go_upto_region 37 with fail
                refine wp_region_lit ?_
                refine vt _ (ex_move rfl (ev s15 rfl)) hz (fun Ydv zz kk s129 => ?_)
                replace s2 := ku s2
                replace s4 := ku s4
                replace s8 := ku s8
                replace s9 := ku s9
                replace s10 := ku s10
                replace s11 := ku s11
                replace s14 := ku s14
                replace s15 := ku s15
                replace hz := zz
                clear kk zz
                refine vt (.int .i64 ((t + 1 : Nat) : Int)) (ex_bin rfl (ev s129 rfl) rfl (addJ t (by omega) _ _ _)) hz (fun Ydw zz kk s130 => ?_)
                replace s2 := ku s2
                replace s4 := ku s4
                replace s8 := ku s8
                replace s9 := ku s9
                replace s10 := ku s10
                replace s11 := ku s11
                replace s14 := ku s14
                replace s15 := ku s15
                replace hz := zz
                clear kk zz s129 Ydv
                refine vt _ (ex_assign rfl (ev s130 rfl)) hz (fun Ydx zz kk s15x => ?_)
                replace s2 := ku s2
                replace s4 := ku s4
                replace s8 := ku s8
                replace s9 := ku s9
                replace s10 := ku s10
                replace s11 := ku s11
                replace s14 := ku s14
                clear kk hz s130 s15
                have hz := zz
                have s15 := s15x
                clear zz s15x Ydw
                refine wpList_nil ?_
                exact ⟨_, rfl, by omega, hz, s2, s4, s8, s9, s10, s11, s14, s15, QZ2, MSZ, HUZ⟩
              · intro L8_p2 zz kk s135x
                replace s2 := ku s2
                replace s4 := ku s4
                replace s8 := ku s8
                replace s9 := ku s9
                replace s10 := ku s10
                replace s11 := ku s11
                replace s14 := ku s14
                replace s15 := ku s15
                replace s131 := ku s131
                replace s133 := ku s133
                replace s134 := ku s134
                clear kk hz
                have hz := zz
                have s135 := s135x
                clear zz s135x
                refine vh_val 1 sv wb rfl (by kernel_rfl) (want_none rfl) (ex_ld rfl (ev s131 rfl) (MMc.bel hbb).ldLog) rfl hz (by decide) trivial (fun L8_7 zz kk s132 => ?_)
                replace s2 := ku s2
                replace s4 := ku s4
                replace s8 := ku s8
                replace s9 := ku s9
                replace s10 := ku s10
                replace s11 := ku s11
                replace s14 := ku s14
                replace s15 := ku s15
                replace s131 := ku s131
                replace s133 := ku s133
                replace s134 := ku s134
                replace s135 := ku s135
                replace hz := zz
                clear kk zz
                have hlen : ((esL l (sI 256 l X.s) t)).length = t := by simp [esL]
                obtain ⟨va, wa, hra, oa, ga, na⟩ := run_appY kE wb 34 (qm + 1) _ sv (some ⟨wc.heap.size, 0, none⟩) 1 1 [(rE l (esS l (sI 256 l X.s) t))] SB (OwnY.grow OLc hbb) (by have := hbb.size; omega) (by rw [hlen]; unfold maxLen; omega) (by rw [hlen]; show (t + 1) * 48 ≤ _; omega)
                refine vh_val 5 va wa rfl (by kernel_rfl) (want_none rfl) (ex_app rfl (ev s132 rfl) (ev s135 rfl) hra) rfl hz (by decide) trivial (fun L8_8 zz kk s136 => ?_)
                replace s2 := ku s2
                replace s4 := ku s4
                replace s8 := ku s8
                replace s9 := ku s9
                replace s10 := ku s10
                replace s11 := ku s11
                replace s14 := ku s14
                replace s15 := ku s15
                replace s131 := ku s131
                replace s133 := ku s133
                replace s134 := ku s134
                replace s135 := ku s135
                replace s132 := ku s132
                replace hz := zz
                clear kk zz
                have uA : Upd (fun x => sv.ownBlock = some x) wc wa := (Upd.of_below hbb).trans (gupd9 ga)
                have hqL : ∀ x, sv.ownBlock = some x → qm + 1 ≤ x := fun x hx => (OLc.blk x hx).1
                have MMa := MMc.upd uA (fun e => by have := hqL _ e; omega)
                have QRa := QRc.ub uA (fun x hx e => by have := hqL _ e; omega)
                have OYa := OwnY.upd1 ODc uA (fun g hg e => apart9 OLc ODc (by decide) g e hg)
                have HURa := HURc.trans (uA.mono (fun x _ hx => .inr (by have := hqL _ hx; omega)))
                obtain ⟨vA, vC, hva, _⟩ := oa.form
                subst hva
                clear hra ga na SB hbb hwb uA MMc QRc OLc ODc HURc
                refine vh_take 6 true (.pointer (some ⟨qm, 16, none⟩)) rfl (by kernel_rfl) (by kernel_rfl) (by kernel_rfl) (want_none rfl) (fun hc v hv => ex_fa rfl (ev s11 rfl) (MBox.faLog _ _)) rfl hz (by decide) trivial (fun L8_9 zz kk s137 => ?_)
                replace s2 := ku s2
                replace s4 := ku s4
                replace s8 := ku s8
                replace s9 := ku s9
                replace s10 := ku s10
                replace s11 := ku s11
                replace s14 := ku s14
                replace s15 := ku s15
                replace s131 := ku s131
                replace s133 := ku s133
                replace s134 := ku s134
                replace s135 := ku s135
                replace s132 := ku s132
                replace s136 := ku s136
                replace hz := zz
                clear kk zz
                refine vh_store 7 (sets wa qm 16 [.slice vA ((esL l (sI 256 l X.s) t) ++ [(rE l (esS l (sI 256 l X.s) t))]).length vC]) rfl (by kernel_rfl) (want_none rfl) (ex_st rfl (ev s137 rfl) (ev s136 rfl) (stSlE vA _ vC (MMa.cell 16 _ rfl) (MMa.free 16))) rfl trivial ?_
                have SP := MMa.splice 16 [.slice vA ((esL l (sI 256 l X.s) t) ++ [(rE l (esS l (sI 256 l X.s) t))]).length vC] X.m (.slice vA ((esL l (sI 256 l X.s) t) ++ [(rE l (esS l (sI 256 l X.s) t))]).length vC) tv (by show _ + _ ≤ 18; simp) rfl
                obtain ⟨wz, hwz⟩ : ∃ y, y = sets wa qm 16 [.slice vA ((esL l (sI 256 l X.s) t) ++ [(rE l (esS l (sI 256 l X.s) t))]).length vC] := ⟨_, rfl⟩
                rw [← hwz] at SP ⊢
                clear hwz
                refine vh_done (by kernel_rfl) ?_
                have QZ := QRa.ub (S := fun x => x = qm) SP.2 (fun x hx => by omega)
                have oz := oa.far (S := fun x => x = qm) SP.2 (fun x hx => by omega)
                have OYz := OYa.far (S := fun x => x = qm) SP.2 (fun x hx => by omega)
                have HUZ := HURa.trans (SP.2.mono (fun x _ hx => .inr (by omega)))
                rw [← esL_snoc] at oz SP
                have MSZ : MS wz qm X.m (esL l (sI 256 l X.s) (t + 1)) X.D := ⟨_, _, SP.1, oz, OYz⟩
                have QZ2 : QD (b + 1) wz b l (esS l (sI 256 l X.s) (t + 1)) := QZ
                clear SP oz OYz QZ MMa QRa OYa HURa oa
                clear s131 s133 s134 s135 s132 s136 s137
                go_upto_region 37 with fail
                refine wp_region_lit ?_
                refine vt _ (ex_move rfl (ev s15 rfl)) hz (fun Ydy zz kk s129 => ?_)
                replace s2 := ku s2
                replace s4 := ku s4
                replace s8 := ku s8
                replace s9 := ku s9
                replace s10 := ku s10
                replace s11 := ku s11
                replace s14 := ku s14
                replace s15 := ku s15
                replace hz := zz
                clear kk zz
                refine vt (.int .i64 ((t + 1 : Nat) : Int)) (ex_bin rfl (ev s129 rfl) rfl (addJ t (by omega) _ _ _)) hz (fun Ydz zz kk s130 => ?_)
                replace s2 := ku s2
                replace s4 := ku s4
                replace s8 := ku s8
                replace s9 := ku s9
                replace s10 := ku s10
                replace s11 := ku s11
                replace s14 := ku s14
                replace s15 := ku s15
                replace hz := zz
                clear kk zz s129 Ydy
                refine vt _ (ex_assign rfl (ev s130 rfl)) hz (fun Yd0 zz kk s15x => ?_)
                replace s2 := ku s2
                replace s4 := ku s4
                replace s8 := ku s8
                replace s9 := ku s9
                replace s10 := ku s10
                replace s11 := ku s11
                replace s14 := ku s14
                clear kk hz s130 s15
                have hz := zz
                have s15 := s15x
                clear zz s15x Ydz
                refine wpList_nil ?_
                exact ⟨_, rfl, by omega, hz, s2, s4, s8, s9, s10, s11, s14, s15, QZ2, MSZ, HUZ⟩
            · intro L8_10 zz kk s132x
              replace s2 := ku s2
              replace s4 := ku s4
              replace s8 := ku s8
              replace s9 := ku s9
              replace s10 := ku s10
              replace s11 := ku s11
              replace s14 := ku s14
              replace s15 := ku s15
              replace s131 := ku s131
              replace s133 := ku s133
              clear kk hz
              have hz := zz
              have s132 := s132x
              clear zz s132x
              refine vh_call 3 rfl (by kernel_rfl) (want_none rfl) (ex_call rfl (by simp only [List.map_toArray, List.map_cons, List.map_nil, (ev s133 rfl), evc] <;> rfl) rfl) (qentry2 (b + 1) b true l (esS l (sI 256 l X.s) t) wd QRd) rfl hz (by decide) ?_
              rintro e wc ⟨rfl, QRc, huc⟩
              refine ⟨_, rfl, trivial, fun L8_11 zz kk s134 => ?_⟩
              change _ = some (gw true (enV (rE l (esS l (sI 256 l X.s) t)))) at s134
              replace s2 := ku s2
              replace s4 := ku s4
              replace s8 := ku s8
              replace s9 := ku s9
              replace s10 := ku s10
              replace s11 := ku s11
              replace s14 := ku s14
              replace s15 := ku s15
              replace s131 := ku s131
              replace s133 := ku s133
              replace s132 := ku s132
              replace hz := zz
              clear kk zz
              have MMc := MMd.upd huc (by omega)
              have OLc := OLd.far huc (fun x hx => by omega)
              have ODc := ODd.far huc (fun x hx => by omega)
              have HURc := HURd.trans (huc.mono (fun x _ hx => .inl hx))
              have hzc := huc.size
              clear MMd OLd ODd HURd QRd huc
              obtain ⟨wb, hwb⟩ : ∃ y, y = wc.alloc (.cells (yE.cs (rE l (esS l (sI 256 l X.s) t))).toArray 28) := ⟨_, rfl⟩
              have hbb : Below wc.heap.size wc wb := by rw [hwb]; exact (Below.refl _ _).alloc (Nat.le_refl _) _
              have SB : SlY yE wb (some ⟨wc.heap.size, 0, none⟩) 1 1 [(rE l (esS l (sI 256 l X.s) t))] := by rw [hwb]; exact sl_box wc (rE l (esS l (sI 256 l X.s) t)) _
              refine vh_val 4 (.slice (some ⟨wc.heap.size, 0, none⟩) 1 1) wb rfl (by kernel_rfl) (want_none rfl) (ex_bs rfl (by simp only [List.map_toArray, List.map_cons, List.map_nil, (ev s134 rfl)] <;> rfl) (by rw [hwb]; exact bsE _ _)) rfl hz (by decide) trivial (fun L8_12 zz kk s135 => ?_)
              replace s2 := ku s2
              replace s4 := ku s4
              replace s8 := ku s8
              replace s9 := ku s9
              replace s10 := ku s10
              replace s11 := ku s11
              replace s14 := ku s14
              replace s15 := ku s15
              replace s131 := ku s131
              replace s133 := ku s133
              replace s132 := ku s132
              replace s134 := ku s134
              replace hz := zz
              clear kk zz
              have hlen : ((esL l (sI 256 l X.s) t)).length = t := by simp [esL]
              obtain ⟨va, wa, hra, oa, ga, na⟩ := run_appY kE wb 34 (qm + 1) _ sv (some ⟨wc.heap.size, 0, none⟩) 1 1 [(rE l (esS l (sI 256 l X.s) t))] SB (OwnY.grow OLc hbb) (by have := hbb.size; omega) (by rw [hlen]; unfold maxLen; omega) (by rw [hlen]; show (t + 1) * 48 ≤ _; omega)
              refine vh_val 5 va wa rfl (by kernel_rfl) (want_none rfl) (ex_app rfl (ev s132 rfl) (ev s135 rfl) hra) rfl hz (by decide) trivial (fun L8_13 zz kk s136 => ?_)
              replace s2 := ku s2
              replace s4 := ku s4
              replace s8 := ku s8
              replace s9 := ku s9
              replace s10 := ku s10
              replace s11 := ku s11
              replace s14 := ku s14
              replace s15 := ku s15
              replace s131 := ku s131
              replace s133 := ku s133
              replace s132 := ku s132
              replace s134 := ku s134
              replace s135 := ku s135
              replace hz := zz
              clear kk zz
              have uA : Upd (fun x => sv.ownBlock = some x) wc wa := (Upd.of_below hbb).trans (gupd9 ga)
              have hqL : ∀ x, sv.ownBlock = some x → qm + 1 ≤ x := fun x hx => (OLc.blk x hx).1
              have MMa := MMc.upd uA (fun e => by have := hqL _ e; omega)
              have QRa := QRc.ub uA (fun x hx e => by have := hqL _ e; omega)
              have OYa := OwnY.upd1 ODc uA (fun g hg e => apart9 OLc ODc (by decide) g e hg)
              have HURa := HURc.trans (uA.mono (fun x _ hx => .inr (by have := hqL _ hx; omega)))
              obtain ⟨vA, vC, hva, _⟩ := oa.form
              subst hva
              clear hra ga na SB hbb hwb uA MMc QRc OLc ODc HURc
              refine vh_take 6 true (.pointer (some ⟨qm, 16, none⟩)) rfl (by kernel_rfl) (by kernel_rfl) (by kernel_rfl) (want_none rfl) (fun hc v hv => ex_fa rfl (ev s11 rfl) (MBox.faLog _ _)) rfl hz (by decide) trivial (fun L8_14 zz kk s137 => ?_)
              replace s2 := ku s2
              replace s4 := ku s4
              replace s8 := ku s8
              replace s9 := ku s9
              replace s10 := ku s10
              replace s11 := ku s11
              replace s14 := ku s14
              replace s15 := ku s15
              replace s131 := ku s131
              replace s133 := ku s133
              replace s132 := ku s132
              replace s134 := ku s134
              replace s135 := ku s135
              replace s136 := ku s136
              replace hz := zz
              clear kk zz
              refine vh_store 7 (sets wa qm 16 [.slice vA ((esL l (sI 256 l X.s) t) ++ [(rE l (esS l (sI 256 l X.s) t))]).length vC]) rfl (by kernel_rfl) (want_none rfl) (ex_st rfl (ev s137 rfl) (ev s136 rfl) (stSlE vA _ vC (MMa.cell 16 _ rfl) (MMa.free 16))) rfl trivial ?_
              have SP := MMa.splice 16 [.slice vA ((esL l (sI 256 l X.s) t) ++ [(rE l (esS l (sI 256 l X.s) t))]).length vC] X.m (.slice vA ((esL l (sI 256 l X.s) t) ++ [(rE l (esS l (sI 256 l X.s) t))]).length vC) tv (by show _ + _ ≤ 18; simp) rfl
              obtain ⟨wz, hwz⟩ : ∃ y, y = sets wa qm 16 [.slice vA ((esL l (sI 256 l X.s) t) ++ [(rE l (esS l (sI 256 l X.s) t))]).length vC] := ⟨_, rfl⟩
              rw [← hwz] at SP ⊢
              clear hwz
              refine vh_done (by kernel_rfl) ?_
              have QZ := QRa.ub (S := fun x => x = qm) SP.2 (fun x hx => by omega)
              have oz := oa.far (S := fun x => x = qm) SP.2 (fun x hx => by omega)
              have OYz := OYa.far (S := fun x => x = qm) SP.2 (fun x hx => by omega)
              have HUZ := HURa.trans (SP.2.mono (fun x _ hx => .inr (by omega)))
              rw [← esL_snoc] at oz SP
              have MSZ : MS wz qm X.m (esL l (sI 256 l X.s) (t + 1)) X.D := ⟨_, _, SP.1, oz, OYz⟩
              have QZ2 : QD (b + 1) wz b l (esS l (sI 256 l X.s) (t + 1)) := QZ
              clear SP oz OYz QZ MMa QRa OYa HURa oa
              clear s131 s133 s132 s134 s135 s136 s137
              go_upto_region 37 with fail
              refine wp_region_lit ?_
              refine vt _ (ex_move rfl (ev s15 rfl)) hz (fun Yd1 zz kk s129 => ?_)
              replace s2 := ku s2
              replace s4 := ku s4
              replace s8 := ku s8
              replace s9 := ku s9
              replace s10 := ku s10
              replace s11 := ku s11
              replace s14 := ku s14
              replace s15 := ku s15
              replace hz := zz
              clear kk zz
              refine vt (.int .i64 ((t + 1 : Nat) : Int)) (ex_bin rfl (ev s129 rfl) rfl (addJ t (by omega) _ _ _)) hz (fun Yd2 zz kk s130 => ?_)
              replace s2 := ku s2
              replace s4 := ku s4
              replace s8 := ku s8
              replace s9 := ku s9
              replace s10 := ku s10
              replace s11 := ku s11
              replace s14 := ku s14
              replace s15 := ku s15
              replace hz := zz
              clear kk zz s129 Yd1
              refine vt _ (ex_assign rfl (ev s130 rfl)) hz (fun Yd3 zz kk s15x => ?_)
              replace s2 := ku s2
              replace s4 := ku s4
              replace s8 := ku s8
              replace s9 := ku s9
              replace s10 := ku s10
              replace s11 := ku s11
              replace s14 := ku s14
              clear kk hz s130 s15
              have hz := zz
              have s15 := s15x
              clear zz s15x Yd2
              refine wpList_nil ?_
              exact ⟨_, rfl, by omega, hz, s2, s4, s8, s9, s10, s11, s14, s15, QZ2, MSZ, HUZ⟩
          refine wp_cond_false ((ev s128 rfl).trans (congrArg Value.bool e8)) ?_
          have htn : t = (rI 256 l X.s) := by have := of_decide_eq_false e8; omega
          subst htn
          clear s128 e8
          go_wp2
          exact ⟨_, rfl, hz, s2, s4, s8, s9, s10, s11, by rw [hX]; exact ⟨QR, ⟨sv, tv, MM, OL, OD⟩, HUR⟩⟩
        · clear hz s2 s4 s8 s9 s10 s11 s123 QR MSR HUR
          intro T8c w8c hJ
          obtain ⟨hz, s2, s4, s8, s9, s10, s11, HI⟩ := hJ
          obtain ⟨QR, MSR, HUR⟩ := HI.out
          clear HI
          go_upto_region 39 with fail
          refine wp_region_lit ?_
          refine vt _ (ex_move rfl (ev s10 rfl)) hz (fun Yd4 zz kk s138 => ?_)
          replace s2 := ku s2
          replace s4 := ku s4
          replace s8 := ku s8
          replace s9 := ku s9
          replace s10 := ku s10
          replace s11 := ku s11
          replace hz := zz
          clear kk zz
          refine vt (.pointer (some ⟨gu, 9, none⟩)) (ex_ix rfl (ev s138 rfl) rfl (by exact ixBool gu 9 10 cu (by omega) _)) hz (fun Yd5 zz kk s139 => ?_)
          replace s2 := ku s2
          replace s4 := ku s4
          replace s8 := ku s8
          replace s9 := ku s9
          replace s10 := ku s10
          replace s11 := ku s11
          replace hz := zz
          clear kk zz s138 Yd4
          refine vt (.bool (!decide ((tabA k 9 : Int) = 0))) (ex_ld rfl (ev s139 rfl) (ldBool (HCU 9 (by omega) _ HUR))) hz (fun Yd6 zz kk s140 => ?_)
          replace s2 := ku s2
          replace s4 := ku s4
          replace s8 := ku s8
          replace s9 := ku s9
          replace s10 := ku s10
          replace s11 := ku s11
          replace hz := zz
          clear kk zz s139 Yd5
          refine wpList_nil ?_
          go_upto_region 40 with fail
          refine v_cond (fun T wr => T.size = 169 ∧ T[2]? = some (gw true (.pointer (some ⟨w.heap.size, 0, none⟩))) ∧ T[4]? = some (gw true (.pointer (some ⟨(w.heap.size + 1), 0, none⟩))) ∧ T[8]? = some (gw true (.pointer (some ⟨b, 0, none⟩))) ∧ T[9]? = some (gw true (.int .i64 (k : Int))) ∧ T[10]? = some (gw true (.slice (some ⟨gu, 0, none⟩) 10 cu)) ∧ T[11]? = some (gw true (.pointer (some ⟨qm, 0, none⟩))) ∧ Hid (QD (b + 1) wr b l (rCols l k x0 10).s ∧ MS wr qm (rCols l k x0 10).m (rCols l k x0 10).L (rCols l k x0 10).D ∧ Upd (fun x => x = b ∨ qm ≤ x) y7 wr)) s140 (fun hu => ?_) (fun hu => ⟨hz, s2, s4, s8, s9, s10, s11, by rw [rCols_none (show tabA k 9 = 0 by have h0 : ((tabA k 9 : Nat) : Int) = 0 := (by simpa using hu); omega)]; exact ⟨QR, MSR, HUR⟩⟩) ?_
          · clear s140
            have ht : ¬ tabA k 9 = 0 := by intro h0; rw [h0] at hu; simp at hu
            have hX := rCols_some (l := l) (x := x0) ht
            obtain ⟨X, hXe⟩ : ∃ X, X = rCols l k x0 9 := ⟨_, rfl⟩
            rw [← hXe] at QR MSR hX
            clear hu
            have hzR := HUR.size
            have hX0 : X.D = [] := by rw [hXe]; exact rcD l k x0 hx0D 9 (by omega)
            have hn256 : (rI 7 l X.s) ≤ 7 := rI_le 7 (by decide) l X.s
            obtain ⟨sv, tv, MM, OL, OD⟩ := MSR
            go_upto_region 40 with fail
            refine wp_region_lit ?_
            refine vt _ (ex_move rfl (ev s8 rfl)) hz (fun Yd7 zz kk s141 => ?_)
            replace s2 := ku s2
            replace s4 := ku s4
            replace s8 := ku s8
            replace s9 := ku s9
            replace s10 := ku s10
            replace s11 := ku s11
            replace hz := zz
            clear kk zz
            refine vcallP (want_none rfl) (ex_call rfl (by simp only [List.map_toArray, List.map_cons, List.map_nil, (ev s141 rfl), evc] <;> rfl) rfl) (qd_I (b + 1) b 7 (by decide) l X.s _ QR) rfl hz (by decide) ?_
            rintro e z1 ⟨rfl, QN, hu1⟩; have hzN := hu1.size
            refine ⟨_, rfl, fun Yd8 zz kk s142 => ?_⟩
            have MMN := MM.upd hu1 (by omega)
            have OLN := OL.far hu1 (fun x hx => by omega)
            have ODN := OD.far hu1 (fun x hx => by omega)
            have HUN := HUR.trans (hu1.mono (fun x _ hx => .inl hx))
            have hzR2 := HUN.size
            clear QR OL OD HUR MM hu1 hzN hzR
            have QR := QN
            have OL := OLN
            have OD := ODN
            have HUR := HUN
            have MM := MMN
            have hzR := hzR2
            clear QN OLN ODN HUN MMN hzR2
            replace s2 := ku s2
            replace s4 := ku s4
            replace s8 := ku s8
            replace s9 := ku s9
            replace s10 := ku s10
            replace s11 := ku s11
            replace hz := zz
            clear kk zz s141 Yd7
            refine vt _ (ex_assign rfl (ev s142 rfl)) hz (fun Yd9 zz kk s16 => ?_)
            replace s2 := ku s2
            replace s4 := ku s4
            replace s8 := ku s8
            replace s9 := ku s9
            replace s10 := ku s10
            replace s11 := ku s11
            replace hz := zz
            clear kk zz s142 Yd8
            refine wpList_nil ?_
            go_upto_region 41 with fail
            refine wp_region_lit ?_
            refine vt (.int .i64 0) (ex_assign rfl rfl) hz (fun Yea zz kk s17 => ?_)
            replace s2 := ku s2
            replace s4 := ku s4
            replace s8 := ku s8
            replace s9 := ku s9
            replace s10 := ku s10
            replace s11 := ku s11
            replace s16 := ku s16
            replace hz := zz
            clear kk zz
            refine wpList_nil ?_
            go_upto_region 42 with fail
            refine v_loop 17 (rI 7 l X.s) (fun t T wr => T.size = 169 ∧ T[2]? = some (gw true (.pointer (some ⟨w.heap.size, 0, none⟩))) ∧ T[4]? = some (gw true (.pointer (some ⟨(w.heap.size + 1), 0, none⟩))) ∧ T[8]? = some (gw true (.pointer (some ⟨b, 0, none⟩))) ∧ T[9]? = some (gw true (.int .i64 (k : Int))) ∧ T[10]? = some (gw true (.slice (some ⟨gu, 0, none⟩) 10 cu)) ∧ T[11]? = some (gw true (.pointer (some ⟨qm, 0, none⟩))) ∧ T[16]? = some (gw true (.int .i64 ((rI 7 l X.s) : Int))) ∧ T[17]? = some (gw true (.int .i64 (t : Int))) ∧ Hid (QD (b + 1) wr b l (dsS l (sI 7 l X.s) t) ∧ MS wr qm X.m X.L (dsL l (sI 7 l X.s) t) ∧ Upd (fun x => x = b ∨ qm ≤ x) y7 wr)) (fun t T w h => h.2.2.2.2.2.2.2.2.1) ⟨hz, s2, s4, s8, s9, s10, s11, s16, s17, QR, ⟨sv, tv, MM, OL, by rw [hX0] at OD; exact OD⟩, HUR⟩ ?_
            clear hz s2 s4 s8 s9 s10 s11 s16 s17 QR MM OL OD HUR hzR
            intro t R0 wr ht0 hh
            obtain ⟨hz, s2, s4, s8, s9, s10, s11, s16, s17, HI⟩ := hh
            obtain ⟨QR, ⟨sv, tv, MM, OL, OD⟩, HUR⟩ := HI.out
            clear HI
            have hzR := HUR.size
            go_upto_region 42 with fail
            refine wp_region_lit ?_
            refine vt _ (ex_move rfl (ev s17 rfl)) hz (fun Yeb zz kk s143 => ?_)
            replace s2 := ku s2
            replace s4 := ku s4
            replace s8 := ku s8
            replace s9 := ku s9
            replace s10 := ku s10
            replace s11 := ku s11
            replace s16 := ku s16
            replace s17 := ku s17
            replace hz := zz
            clear kk zz
            refine vt _ (ex_move rfl (ev s16 rfl)) hz (fun Yec zz kk s144 => ?_)
            replace s2 := ku s2
            replace s4 := ku s4
            replace s8 := ku s8
            replace s9 := ku s9
            replace s10 := ku s10
            replace s11 := ku s11
            replace s16 := ku s16
            replace s17 := ku s17
            replace s143 := ku s143
            replace hz := zz
            clear kk zz Yeb
            refine vt (.bool (decide ((t : Int) < ((rI 7 l X.s) : Int)))) (ex_bin rfl (ev s143 rfl) (ev s144 rfl) (lssC _ _ _ _ _)) hz (fun Yed zz kk s145 => ?_)
            replace s2 := ku s2
            replace s4 := ku s4
            replace s8 := ku s8
            replace s9 := ku s9
            replace s10 := ku s10
            replace s11 := ku s11
            replace s16 := ku s16
            replace s17 := ku s17
            replace hz := zz
            clear kk zz s143 s144 Yec
            refine wpList_nil ?_
            go_upto_region 44 with fail
            cases e8 : decide ((t : Int) < ((rI 7 l X.s) : Int))
            rotate_left
            · refine wp_cond_true ((ev s145 rfl).trans (congrArg Value.bool e8)) ?_
              have hlt : t < (rI 7 l X.s) := by have := of_decide_eq_true e8; omega
              clear s145 e8
              go_upto_region 44 with fail
              refine vh_start (fun _ => True) (by kernel_rfl) ?_
              have QRd := QR.later (Below.refl _ _).drew
              have MMd := MM.bel (Below.refl _ _).drew
              have OLd := OwnY.grow OL (Below.refl _ _).drew
              have ODd := OwnY.grow OD (Below.refl _ _).drew
              have HURd := HUR.trans (Upd.of_below (Below.refl _ _).drew)
              have hzRd : y7.heap.size ≤ wr.drew.heap.size := hzR
              clear QR MM OL OD HUR
              obtain ⟨wd, hwd⟩ : ∃ y, y = wr.drew := ⟨_, rfl⟩
              rw [← hwd] at QRd MMd OLd ODd HURd hzRd ⊢
              clear hwd hzR
              refine vh_take 0 true (.pointer (some ⟨qm, 17, none⟩)) rfl (by kernel_rfl) (by kernel_rfl) (by kernel_rfl) (want_none rfl) (fun hc v hv => ex_fa rfl (ev s11 rfl) (MBox.faVector _ _)) rfl hz (by decide) trivial (fun L9_1 zz kk s148 => ?_)
              replace s2 := ku s2
              replace s4 := ku s4
              replace s8 := ku s8
              replace s9 := ku s9
              replace s10 := ku s10
              replace s11 := ku s11
              replace s16 := ku s16
              replace s17 := ku s17
              replace hz := zz
              clear kk zz
              refine vh_take 2 true (.pointer (some ⟨b, 0, none⟩)) rfl (by kernel_rfl) (by kernel_rfl) (by kernel_rfl) (want_none rfl) (fun hc v hv => ex_move rfl (ev s8 rfl)) rfl hz (by decide) trivial (fun L9_2 zz kk s150 => ?_)
              replace s2 := ku s2
              replace s4 := ku s4
              replace s8 := ku s8
              replace s9 := ku s9
              replace s10 := ku s10
              replace s11 := ku s11
              replace s16 := ku s16
              replace s17 := ku s17
              replace s148 := ku s148
              replace hz := zz
              clear kk zz
              refine vh_twoR 1 3 (by kernel_rfl) rfl rfl (want_none rfl) (ex_call rfl (by simp only [List.map_toArray, List.map_cons, List.map_nil, (ev s150 rfl), evc] <;> rfl) rfl) (qdraw_any (b + 1) b l (dsS l (sI 7 l X.s) t) wd QRd) rfl hz (by decide) ?_ tv wd (want_none rfl) (ex_ld rfl (ev s148 rfl) MMd.ldVector) rfl (by decide) trivial ?_
              · rintro e wc ⟨rfl, QRc, huc⟩
                refine ⟨_, rfl, trivial, fun L9_3 zz kk s151 => ?_⟩
                change _ = some (gw true (.agg #[.int .u64 (rD l (dsS l (sI 7 l X.s) t)).1, .int .u64 (rD l (dsS l (sI 7 l X.s) t)).2])) at s151
                replace s2 := ku s2
                replace s4 := ku s4
                replace s8 := ku s8
                replace s9 := ku s9
                replace s10 := ku s10
                replace s11 := ku s11
                replace s16 := ku s16
                replace s17 := ku s17
                replace s148 := ku s148
                replace s150 := ku s150
                replace hz := zz
                clear kk zz
                have MMc := MMd.upd huc (by omega)
                have OLc := OLd.far huc (fun x hx => by omega)
                have ODc := ODd.far huc (fun x hx => by omega)
                have HURc := HURd.trans (huc.mono (fun x _ hx => .inl hx))
                have hzc := huc.size
                clear MMd OLd ODd HURd QRd huc
                obtain ⟨wb, hwb⟩ : ∃ y, y = wc.alloc (.cells (yD.cs (rD l (dsS l (sI 7 l X.s) t))).toArray 33) := ⟨_, rfl⟩
                have hbb : Below wc.heap.size wc wb := by rw [hwb]; exact (Below.refl _ _).alloc (Nat.le_refl _) _
                have SB : SlY yD wb (some ⟨wc.heap.size, 0, none⟩) 1 1 [(rD l (dsS l (sI 7 l X.s) t))] := by rw [hwb]; exact sl_box wc (rD l (dsS l (sI 7 l X.s) t)) _
                refine vh_pair 1 4 (by kernel_rfl) rfl rfl hz tv (want_none rfl) (ex_ld rfl (ev s148 rfl) MMc.ldVector) rfl (by decide) trivial (.slice (some ⟨wc.heap.size, 0, none⟩) 1 1) wb (want_none rfl) (ex_bs rfl (by simp only [List.map_toArray, List.map_cons, List.map_nil, (ev s151 rfl)] <;> rfl) (by rw [hwb]; exact bsD _ _)) rfl (by decide) trivial ?_ ?_
                · intro L9_p1 zz kk s149x
                  replace s2 := ku s2
                  replace s4 := ku s4
                  replace s8 := ku s8
                  replace s9 := ku s9
                  replace s10 := ku s10
                  replace s11 := ku s11
                  replace s16 := ku s16
                  replace s17 := ku s17
                  replace s148 := ku s148
                  replace s150 := ku s150
                  replace s151 := ku s151
                  clear kk hz
                  have hz := zz
                  have s149 := s149x
                  clear zz s149x
                  refine vh_val 4 (.slice (some ⟨wc.heap.size, 0, none⟩) 1 1) wb rfl (by kernel_rfl) (want_none rfl) (ex_bs rfl (by simp only [List.map_toArray, List.map_cons, List.map_nil, (ev s151 rfl)] <;> rfl) (by rw [hwb]; exact bsD _ _)) rfl hz (by decide) trivial (fun L9_4 zz kk s152 => ?_)
                  replace s2 := ku s2
                  replace s4 := ku s4
                  replace s8 := ku s8
                  replace s9 := ku s9
                  replace s10 := ku s10
                  replace s11 := ku s11
                  replace s16 := ku s16
                  replace s17 := ku s17
                  replace s148 := ku s148
                  replace s150 := ku s150
                  replace s151 := ku s151
                  replace s149 := ku s149
                  replace hz := zz
                  clear kk zz
                  have hlen : ((dsL l (sI 7 l X.s) t)).length = t := by simp [dsL]
                  obtain ⟨va, wa, hra, oa, ga, na⟩ := run_appY kD wb 36 (qm + 1) _ tv (some ⟨wc.heap.size, 0, none⟩) 1 1 [(rD l (dsS l (sI 7 l X.s) t))] SB (OwnY.grow ODc hbb) (by have := hbb.size; omega) (by rw [hlen]; unfold maxLen; omega) (by rw [hlen]; show (t + 1) * 16 ≤ _; omega)
                  refine vh_val 5 va wa rfl (by kernel_rfl) (want_none rfl) (ex_app rfl (ev s149 rfl) (ev s152 rfl) hra) rfl hz (by decide) trivial (fun L9_5 zz kk s153 => ?_)
                  replace s2 := ku s2
                  replace s4 := ku s4
                  replace s8 := ku s8
                  replace s9 := ku s9
                  replace s10 := ku s10
                  replace s11 := ku s11
                  replace s16 := ku s16
                  replace s17 := ku s17
                  replace s148 := ku s148
                  replace s150 := ku s150
                  replace s151 := ku s151
                  replace s149 := ku s149
                  replace s152 := ku s152
                  replace hz := zz
                  clear kk zz
                  have uA : Upd (fun x => tv.ownBlock = some x) wc wa := (Upd.of_below hbb).trans (gupd9 ga)
                  have hqL : ∀ x, tv.ownBlock = some x → qm + 1 ≤ x := fun x hx => (ODc.blk x hx).1
                  have MMa := MMc.upd uA (fun e => by have := hqL _ e; omega)
                  have QRa := QRc.ub uA (fun x hx e => by have := hqL _ e; omega)
                  have OYa := OwnY.upd1 OLc uA (fun g hg e => apart9 ODc OLc (by decide) g e hg)
                  have HURa := HURc.trans (uA.mono (fun x _ hx => .inr (by have := hqL _ hx; omega)))
                  obtain ⟨vA, vC, hva, _⟩ := oa.form
                  subst hva
                  clear hra ga na SB hbb hwb uA MMc QRc OLc ODc HURc
                  refine vh_take 6 true (.pointer (some ⟨qm, 17, none⟩)) rfl (by kernel_rfl) (by kernel_rfl) (by kernel_rfl) (want_none rfl) (fun hc v hv => ex_fa rfl (ev s11 rfl) (MBox.faVector _ _)) rfl hz (by decide) trivial (fun L9_6 zz kk s154 => ?_)
                  replace s2 := ku s2
                  replace s4 := ku s4
                  replace s8 := ku s8
                  replace s9 := ku s9
                  replace s10 := ku s10
                  replace s11 := ku s11
                  replace s16 := ku s16
                  replace s17 := ku s17
                  replace s148 := ku s148
                  replace s150 := ku s150
                  replace s151 := ku s151
                  replace s149 := ku s149
                  replace s152 := ku s152
                  replace s153 := ku s153
                  replace hz := zz
                  clear kk zz
                  refine vh_store 7 (sets wa qm 17 [.slice vA ((dsL l (sI 7 l X.s) t) ++ [(rD l (dsS l (sI 7 l X.s) t))]).length vC]) rfl (by kernel_rfl) (want_none rfl) (ex_st rfl (ev s154 rfl) (ev s153 rfl) (stSlD vA _ vC (MMa.cell 17 _ rfl) (MMa.free 17))) rfl trivial ?_
                  have SP := MMa.splice 17 [.slice vA ((dsL l (sI 7 l X.s) t) ++ [(rD l (dsS l (sI 7 l X.s) t))]).length vC] X.m sv (.slice vA ((dsL l (sI 7 l X.s) t) ++ [(rD l (dsS l (sI 7 l X.s) t))]).length vC) (by show _ + _ ≤ 18; simp) rfl
                  obtain ⟨wz, hwz⟩ : ∃ y, y = sets wa qm 17 [.slice vA ((dsL l (sI 7 l X.s) t) ++ [(rD l (dsS l (sI 7 l X.s) t))]).length vC] := ⟨_, rfl⟩
                  rw [← hwz] at SP ⊢
                  clear hwz
                  refine vh_done (by kernel_rfl) ?_
                  have QZ := QRa.ub (S := fun x => x = qm) SP.2 (fun x hx => by omega)
                  have oz := oa.far (S := fun x => x = qm) SP.2 (fun x hx => by omega)
                  have OYz := OYa.far (S := fun x => x = qm) SP.2 (fun x hx => by omega)
                  have HUZ := HURa.trans (SP.2.mono (fun x _ hx => .inr (by omega)))
                  rw [← dsL_snoc] at oz SP
                  have MSZ : MS wz qm X.m X.L (dsL l (sI 7 l X.s) (t + 1)) := ⟨_, _, SP.1, OYz, oz⟩
                  have QZ2 : QD (b + 1) wz b l (dsS l (sI 7 l X.s) (t + 1)) := QZ
                  clear SP oz OYz QZ MMa QRa OYa HURa oa
                  clear s148 s150 s151 s149 s152 s153 s154
                  go_upto_region 43 with fail
                  refine wp_region_lit ?_
                  refine vt _ (ex_move rfl (ev s17 rfl)) hz (fun Yee zz kk s146 => ?_)
                  replace s2 := ku s2
                  replace s4 := ku s4
                  replace s8 := ku s8
                  replace s9 := ku s9
                  replace s10 := ku s10
                  replace s11 := ku s11
                  replace s16 := ku s16
                  replace s17 := ku s17
                  replace hz := zz
                  clear kk zz
                  refine vt (.int .i64 ((t + 1 : Nat) : Int)) (ex_bin rfl (ev s146 rfl) rfl (addJ t (by omega) _ _ _)) hz (fun Yef zz kk s147 => ?_)
                  replace s2 := ku s2
                  replace s4 := ku s4
                  replace s8 := ku s8
                  replace s9 := ku s9
                  replace s10 := ku s10
                  replace s11 := ku s11
                  replace s16 := ku s16
                  replace s17 := ku s17
                  replace hz := zz
                  clear kk zz s146 Yee
                  refine vt _ (ex_assign rfl (ev s147 rfl)) hz (fun Yeg zz kk s17x => ?_)
                  replace s2 := ku s2
                  replace s4 := ku s4
                  replace s8 := ku s8
                  replace s9 := ku s9
                  replace s10 := ku s10
                  replace s11 := ku s11
                  replace s16 := ku s16
                  clear kk hz s147 s17
                  have hz := zz
                  have s17 := s17x
                  clear zz s17x Yef
                  refine wpList_nil ?_
                  exact ⟨_, rfl, by omega, hz, s2, s4, s8, s9, s10, s11, s16, s17, QZ2, MSZ, HUZ⟩
                · intro L9_p2 zz kk s152x
                  replace s2 := ku s2
                  replace s4 := ku s4
                  replace s8 := ku s8
                  replace s9 := ku s9
                  replace s10 := ku s10
                  replace s11 := ku s11
                  replace s16 := ku s16
                  replace s17 := ku s17
                  replace s148 := ku s148
                  replace s150 := ku s150
                  replace s151 := ku s151
                  clear kk hz
                  have hz := zz
                  have s152 := s152x
                  clear zz s152x
                  refine vh_val 1 tv wb rfl (by kernel_rfl) (want_none rfl) (ex_ld rfl (ev s148 rfl) (MMc.bel hbb).ldVector) rfl hz (by decide) trivial (fun L9_7 zz kk s149 => ?_)
                  replace s2 := ku s2
                  replace s4 := ku s4
                  replace s8 := ku s8
                  replace s9 := ku s9
                  replace s10 := ku s10
                  replace s11 := ku s11
                  replace s16 := ku s16
                  replace s17 := ku s17
                  replace s148 := ku s148
                  replace s150 := ku s150
                  replace s151 := ku s151
                  replace s152 := ku s152
                  replace hz := zz
                  clear kk zz
                  have hlen : ((dsL l (sI 7 l X.s) t)).length = t := by simp [dsL]
                  obtain ⟨va, wa, hra, oa, ga, na⟩ := run_appY kD wb 36 (qm + 1) _ tv (some ⟨wc.heap.size, 0, none⟩) 1 1 [(rD l (dsS l (sI 7 l X.s) t))] SB (OwnY.grow ODc hbb) (by have := hbb.size; omega) (by rw [hlen]; unfold maxLen; omega) (by rw [hlen]; show (t + 1) * 16 ≤ _; omega)
                  refine vh_val 5 va wa rfl (by kernel_rfl) (want_none rfl) (ex_app rfl (ev s149 rfl) (ev s152 rfl) hra) rfl hz (by decide) trivial (fun L9_8 zz kk s153 => ?_)
                  replace s2 := ku s2
                  replace s4 := ku s4
                  replace s8 := ku s8
                  replace s9 := ku s9
                  replace s10 := ku s10
                  replace s11 := ku s11
                  replace s16 := ku s16
                  replace s17 := ku s17
                  replace s148 := ku s148
                  replace s150 := ku s150
                  replace s151 := ku s151
                  replace s152 := ku s152
                  replace s149 := ku s149
                  replace hz := zz
                  clear kk zz
                  have uA : Upd (fun x => tv.ownBlock = some x) wc wa := (Upd.of_below hbb).trans (gupd9 ga)
                  have hqL : ∀ x, tv.ownBlock = some x → qm + 1 ≤ x := fun x hx => (ODc.blk x hx).1
                  have MMa := MMc.upd uA (fun e => by have := hqL _ e; omega)
                  have QRa := QRc.ub uA (fun x hx e => by have := hqL _ e; omega)
                  have OYa := OwnY.upd1 OLc uA (fun g hg e => apart9 ODc OLc (by decide) g e hg)
                  have HURa := HURc.trans (uA.mono (fun x _ hx => .inr (by have := hqL _ hx; omega)))
                  obtain ⟨vA, vC, hva, _⟩ := oa.form
                  subst hva
                  clear hra ga na SB hbb hwb uA MMc QRc OLc ODc HURc
                  refine vh_take 6 true (.pointer (some ⟨qm, 17, none⟩)) rfl (by kernel_rfl) (by kernel_rfl) (by kernel_rfl) (want_none rfl) (fun hc v hv => ex_fa rfl (ev s11 rfl) (MBox.faVector _ _)) rfl hz (by decide) trivial (fun L9_9 zz kk s154 => ?_)
                  replace s2 := ku s2
                  replace s4 := ku s4
                  replace s8 := ku s8
                  replace s9 := ku s9
                  replace s10 := ku s10
                  replace s11 := ku s11
                  replace s16 := ku s16
                  replace s17 := ku s17
                  replace s148 := ku s148
                  replace s150 := ku s150
                  replace s151 := ku s151
                  replace s152 := ku s152
                  replace s149 := ku s149
                  replace s153 := ku s153
                  replace hz := zz
                  clear kk zz
                  refine vh_store 7 (sets wa qm 17 [.slice vA ((dsL l (sI 7 l X.s) t) ++ [(rD l (dsS l (sI 7 l X.s) t))]).length vC]) rfl (by kernel_rfl) (want_none rfl) (ex_st rfl (ev s154 rfl) (ev s153 rfl) (stSlD vA _ vC (MMa.cell 17 _ rfl) (MMa.free 17))) rfl trivial ?_
                  have SP := MMa.splice 17 [.slice vA ((dsL l (sI 7 l X.s) t) ++ [(rD l (dsS l (sI 7 l X.s) t))]).length vC] X.m sv (.slice vA ((dsL l (sI 7 l X.s) t) ++ [(rD l (dsS l (sI 7 l X.s) t))]).length vC) (by show _ + _ ≤ 18; simp) rfl
                  obtain ⟨wz, hwz⟩ : ∃ y, y = sets wa qm 17 [.slice vA ((dsL l (sI 7 l X.s) t) ++ [(rD l (dsS l (sI 7 l X.s) t))]).length vC] := ⟨_, rfl⟩
                  rw [← hwz] at SP ⊢
                  clear hwz
                  refine vh_done (by kernel_rfl) ?_
                  have QZ := QRa.ub (S := fun x => x = qm) SP.2 (fun x hx => by omega)
                  have oz := oa.far (S := fun x => x = qm) SP.2 (fun x hx => by omega)
                  have OYz := OYa.far (S := fun x => x = qm) SP.2 (fun x hx => by omega)
                  have HUZ := HURa.trans (SP.2.mono (fun x _ hx => .inr (by omega)))
                  rw [← dsL_snoc] at oz SP
                  have MSZ : MS wz qm X.m X.L (dsL l (sI 7 l X.s) (t + 1)) := ⟨_, _, SP.1, OYz, oz⟩
                  have QZ2 : QD (b + 1) wz b l (dsS l (sI 7 l X.s) (t + 1)) := QZ
                  clear SP oz OYz QZ MMa QRa OYa HURa oa
                  clear s148 s150 s151 s152 s149 s153 s154
                  go_upto_region 43 with fail
                  refine wp_region_lit ?_
                  refine vt _ (ex_move rfl (ev s17 rfl)) hz (fun Yeh zz kk s146 => ?_)
                  replace s2 := ku s2
                  replace s4 := ku s4
                  replace s8 := ku s8
                  replace s9 := ku s9
                  replace s10 := ku s10
                  replace s11 := ku s11
                  replace s16 := ku s16
                  replace s17 := ku s17
                  replace hz := zz
                  clear kk zz
                  refine vt (.int .i64 ((t + 1 : Nat) : Int)) (ex_bin rfl (ev s146 rfl) rfl (addJ t (by omega) _ _ _)) hz (fun Yei zz kk s147 => ?_)
                  replace s2 := ku s2
                  replace s4 := ku s4
                  replace s8 := ku s8
                  replace s9 := ku s9
                  replace s10 := ku s10
                  replace s11 := ku s11
                  replace s16 := ku s16
                  replace s17 := ku s17
                  replace hz := zz
                  clear kk zz s146 Yeh
                  refine vt _ (ex_assign rfl (ev s147 rfl)) hz (fun Yej zz kk s17x => ?_)
                  replace s2 := ku s2
                  replace s4 := ku s4
                  replace s8 := ku s8
                  replace s9 := ku s9
                  replace s10 := ku s10
                  replace s11 := ku s11
                  replace s16 := ku s16
                  clear kk hz s147 s17
                  have hz := zz
                  have s17 := s17x
                  clear zz s17x Yei
                  refine wpList_nil ?_
                  exact ⟨_, rfl, by omega, hz, s2, s4, s8, s9, s10, s11, s16, s17, QZ2, MSZ, HUZ⟩
              · intro L9_10 zz kk s149x
                replace s2 := ku s2
                replace s4 := ku s4
                replace s8 := ku s8
                replace s9 := ku s9
                replace s10 := ku s10
                replace s11 := ku s11
                replace s16 := ku s16
                replace s17 := ku s17
                replace s148 := ku s148
                replace s150 := ku s150
                clear kk hz
                have hz := zz
                have s149 := s149x
                clear zz s149x
                refine vh_call 3 rfl (by kernel_rfl) (want_none rfl) (ex_call rfl (by simp only [List.map_toArray, List.map_cons, List.map_nil, (ev s150 rfl), evc] <;> rfl) rfl) (qdraw_any (b + 1) b l (dsS l (sI 7 l X.s) t) wd QRd) rfl hz (by decide) ?_
                rintro e wc ⟨rfl, QRc, huc⟩
                refine ⟨_, rfl, trivial, fun L9_11 zz kk s151 => ?_⟩
                change _ = some (gw true (.agg #[.int .u64 (rD l (dsS l (sI 7 l X.s) t)).1, .int .u64 (rD l (dsS l (sI 7 l X.s) t)).2])) at s151
                replace s2 := ku s2
                replace s4 := ku s4
                replace s8 := ku s8
                replace s9 := ku s9
                replace s10 := ku s10
                replace s11 := ku s11
                replace s16 := ku s16
                replace s17 := ku s17
                replace s148 := ku s148
                replace s150 := ku s150
                replace s149 := ku s149
                replace hz := zz
                clear kk zz
                have MMc := MMd.upd huc (by omega)
                have OLc := OLd.far huc (fun x hx => by omega)
                have ODc := ODd.far huc (fun x hx => by omega)
                have HURc := HURd.trans (huc.mono (fun x _ hx => .inl hx))
                have hzc := huc.size
                clear MMd OLd ODd HURd QRd huc
                obtain ⟨wb, hwb⟩ : ∃ y, y = wc.alloc (.cells (yD.cs (rD l (dsS l (sI 7 l X.s) t))).toArray 33) := ⟨_, rfl⟩
                have hbb : Below wc.heap.size wc wb := by rw [hwb]; exact (Below.refl _ _).alloc (Nat.le_refl _) _
                have SB : SlY yD wb (some ⟨wc.heap.size, 0, none⟩) 1 1 [(rD l (dsS l (sI 7 l X.s) t))] := by rw [hwb]; exact sl_box wc (rD l (dsS l (sI 7 l X.s) t)) _
                refine vh_val 4 (.slice (some ⟨wc.heap.size, 0, none⟩) 1 1) wb rfl (by kernel_rfl) (want_none rfl) (ex_bs rfl (by simp only [List.map_toArray, List.map_cons, List.map_nil, (ev s151 rfl)] <;> rfl) (by rw [hwb]; exact bsD _ _)) rfl hz (by decide) trivial (fun L9_12 zz kk s152 => ?_)
                replace s2 := ku s2
                replace s4 := ku s4
                replace s8 := ku s8
                replace s9 := ku s9
                replace s10 := ku s10
                replace s11 := ku s11
                replace s16 := ku s16
                replace s17 := ku s17
                replace s148 := ku s148
                replace s150 := ku s150
                replace s149 := ku s149
                replace s151 := ku s151
                replace hz := zz
                clear kk zz
                have hlen : ((dsL l (sI 7 l X.s) t)).length = t := by simp [dsL]
                obtain ⟨va, wa, hra, oa, ga, na⟩ := run_appY kD wb 36 (qm + 1) _ tv (some ⟨wc.heap.size, 0, none⟩) 1 1 [(rD l (dsS l (sI 7 l X.s) t))] SB (OwnY.grow ODc hbb) (by have := hbb.size; omega) (by rw [hlen]; unfold maxLen; omega) (by rw [hlen]; show (t + 1) * 16 ≤ _; omega)
                refine vh_val 5 va wa rfl (by kernel_rfl) (want_none rfl) (ex_app rfl (ev s149 rfl) (ev s152 rfl) hra) rfl hz (by decide) trivial (fun L9_13 zz kk s153 => ?_)
                replace s2 := ku s2
                replace s4 := ku s4
                replace s8 := ku s8
                replace s9 := ku s9
                replace s10 := ku s10
                replace s11 := ku s11
                replace s16 := ku s16
                replace s17 := ku s17
                replace s148 := ku s148
                replace s150 := ku s150
                replace s149 := ku s149
                replace s151 := ku s151
                replace s152 := ku s152
                replace hz := zz
                clear kk zz
                have uA : Upd (fun x => tv.ownBlock = some x) wc wa := (Upd.of_below hbb).trans (gupd9 ga)
                have hqL : ∀ x, tv.ownBlock = some x → qm + 1 ≤ x := fun x hx => (ODc.blk x hx).1
                have MMa := MMc.upd uA (fun e => by have := hqL _ e; omega)
                have QRa := QRc.ub uA (fun x hx e => by have := hqL _ e; omega)
                have OYa := OwnY.upd1 OLc uA (fun g hg e => apart9 ODc OLc (by decide) g e hg)
                have HURa := HURc.trans (uA.mono (fun x _ hx => .inr (by have := hqL _ hx; omega)))
                obtain ⟨vA, vC, hva, _⟩ := oa.form
                subst hva
                clear hra ga na SB hbb hwb uA MMc QRc OLc ODc HURc
                refine vh_take 6 true (.pointer (some ⟨qm, 17, none⟩)) rfl (by kernel_rfl) (by kernel_rfl) (by kernel_rfl) (want_none rfl) (fun hc v hv => ex_fa rfl (ev s11 rfl) (MBox.faVector _ _)) rfl hz (by decide) trivial (fun L9_14 zz kk s154 => ?_)
                replace s2 := ku s2
                replace s4 := ku s4
                replace s8 := ku s8
                replace s9 := ku s9
                replace s10 := ku s10
                replace s11 := ku s11
                replace s16 := ku s16
                replace s17 := ku s17
                replace s148 := ku s148
                replace s150 := ku s150
                replace s149 := ku s149
                replace s151 := ku s151
                replace s152 := ku s152
                replace s153 := ku s153
                replace hz := zz
                clear kk zz
                refine vh_store 7 (sets wa qm 17 [.slice vA ((dsL l (sI 7 l X.s) t) ++ [(rD l (dsS l (sI 7 l X.s) t))]).length vC]) rfl (by kernel_rfl) (want_none rfl) (ex_st rfl (ev s154 rfl) (ev s153 rfl) (stSlD vA _ vC (MMa.cell 17 _ rfl) (MMa.free 17))) rfl trivial ?_
                have SP := MMa.splice 17 [.slice vA ((dsL l (sI 7 l X.s) t) ++ [(rD l (dsS l (sI 7 l X.s) t))]).length vC] X.m sv (.slice vA ((dsL l (sI 7 l X.s) t) ++ [(rD l (dsS l (sI 7 l X.s) t))]).length vC) (by show _ + _ ≤ 18; simp) rfl
                obtain ⟨wz, hwz⟩ : ∃ y, y = sets wa qm 17 [.slice vA ((dsL l (sI 7 l X.s) t) ++ [(rD l (dsS l (sI 7 l X.s) t))]).length vC] := ⟨_, rfl⟩
                rw [← hwz] at SP ⊢
                clear hwz
                refine vh_done (by kernel_rfl) ?_
                have QZ := QRa.ub (S := fun x => x = qm) SP.2 (fun x hx => by omega)
                have oz := oa.far (S := fun x => x = qm) SP.2 (fun x hx => by omega)
                have OYz := OYa.far (S := fun x => x = qm) SP.2 (fun x hx => by omega)
                have HUZ := HURa.trans (SP.2.mono (fun x _ hx => .inr (by omega)))
                rw [← dsL_snoc] at oz SP
                have MSZ : MS wz qm X.m X.L (dsL l (sI 7 l X.s) (t + 1)) := ⟨_, _, SP.1, OYz, oz⟩
                have QZ2 : QD (b + 1) wz b l (dsS l (sI 7 l X.s) (t + 1)) := QZ
                clear SP oz OYz QZ MMa QRa OYa HURa oa
                clear s148 s150 s149 s151 s152 s153 s154
                go_upto_region 43 with fail
                refine wp_region_lit ?_
                refine vt _ (ex_move rfl (ev s17 rfl)) hz (fun Yek zz kk s146 => ?_)
                replace s2 := ku s2
                replace s4 := ku s4
                replace s8 := ku s8
                replace s9 := ku s9
                replace s10 := ku s10
                replace s11 := ku s11
                replace s16 := ku s16
                replace s17 := ku s17
                replace hz := zz
                clear kk zz
                refine vt (.int .i64 ((t + 1 : Nat) : Int)) (ex_bin rfl (ev s146 rfl) rfl (addJ t (by omega) _ _ _)) hz (fun Yel zz kk s147 => ?_)
                replace s2 := ku s2
                replace s4 := ku s4
                replace s8 := ku s8
                replace s9 := ku s9
                replace s10 := ku s10
                replace s11 := ku s11
                replace s16 := ku s16
                replace s17 := ku s17
                replace hz := zz
                clear kk zz s146 Yek
                refine vt _ (ex_assign rfl (ev s147 rfl)) hz (fun Yem zz kk s17x => ?_)
                replace s2 := ku s2
                replace s4 := ku s4
                replace s8 := ku s8
                replace s9 := ku s9
                replace s10 := ku s10
                replace s11 := ku s11
                replace s16 := ku s16
                clear kk hz s147 s17
                have hz := zz
                have s17 := s17x
                clear zz s17x Yel
                refine wpList_nil ?_
                exact ⟨_, rfl, by omega, hz, s2, s4, s8, s9, s10, s11, s16, s17, QZ2, MSZ, HUZ⟩
            refine wp_cond_false ((ev s145 rfl).trans (congrArg Value.bool e8)) ?_
            have htn : t = (rI 7 l X.s) := by have := of_decide_eq_false e8; omega
            subst htn
            clear s145 e8
            go_wp2
            exact ⟨_, rfl, hz, s2, s4, s8, s9, s10, s11, by rw [hX]; exact ⟨QR, ⟨sv, tv, MM, OL, OD⟩, HUR⟩⟩
          · clear hz s2 s4 s8 s9 s10 s11 s140 QR MSR HUR
            intro T9c w9c hJ
            obtain ⟨hz, s2, s4, s8, s9, s10, s11, HI⟩ := hJ
            obtain ⟨QR, MSR, HUR⟩ := HI.out
            clear HI
            obtain ⟨sv, tv, MM, OL, OD⟩ := MSR
            have hzR := HUR.size
            replace Cc := Cc.upd9 HUR (by omega)
            replace M0 := M0.upd HUR (by omega)
            replace hB := hB.trans (HUR.below hB.size (fun x hx => by omega))
            clear HUR
            go_upto_region 45 with fail
            refine wp_region_lit ?_
            refine vt _ (ex_move rfl (ev s8 rfl)) hz (fun Yen zz kk s155 => ?_)
            replace s2 := ku s2
            replace s4 := ku s4
            replace s11 := ku s11
            replace hz := zz
            clear kk zz s8 s9 s10
            refine vcallP (want_none rfl) (ex_call rfl (by simp only [List.map_toArray, List.map_cons, List.map_nil, (ev s155 rfl), evc] <;> rfl) rfl) (qd_End (b + 1) b l (rCols l k x0 10).s _ QR) rfl hz (by decide) ?_
            rintro e t1 ⟨rfl, hb⟩
            refine ⟨_, rfl, fun Yeo zz kk s156 => ?_⟩
            replace Cc := Cc.bel hb
            replace M0 := M0.bel hb
            replace hB := hB.trans (hb.mono hB.size)
            have MM2 := MM.bel hb
            have OL2 := OwnY.grow OL hb
            have OD2 := OwnY.grow OD hb
            have hzt := hb.size
            clear MM OL OD QR hb
            replace s2 := ku s2
            replace s4 := ku s4
            replace s11 := ku s11
            replace hz := zz
            clear kk zz s155 Yen
            refine vt _ (ex_assign rfl (ev s156 rfl)) hz (fun Yep zz kk s7 => ?_)
            replace s2 := ku s2
            replace s4 := ku s4
            replace s11 := ku s11
            replace hz := zz
            clear kk zz s156 Yeo
            refine wpList_nil ?_
            go_upto_region 46 with fail
            refine wp_region_lit ?_
            refine vt _ (ex_move rfl (ev s7 rfl)) hz (fun Yeq zz kk s157 => ?_)
            replace s2 := ku s2
            replace s4 := ku s4
            replace s7 := ku s7
            replace s11 := ku s11
            replace hz := zz
            clear kk zz
            refine vt (.bool (!decide ((Wi.endErr l.length (rCols l k x0 10).s.1 (rCols l k x0 10).s.2) = 0))) (ex_bin rfl (ev s157 rfl) rfl (neqC _ _ _ _ _)) hz (fun Yer zz kk s158 => ?_)
            replace s2 := ku s2
            replace s4 := ku s4
            replace s7 := ku s7
            replace s11 := ku s11
            replace hz := zz
            clear kk zz s157 Yeq
            refine wpList_nil ?_
            go_upto_region 48 with fail
            cases hee : !decide ((Wi.endErr l.length (rCols l k x0 10).s.1 (rCols l k x0 10).s.2) = 0)
            rotate_left
            · rw [hee] at s158
              refine wp_cond_true ((ev s158 rfl).trans rfl) ?_
              clear s158
              have hne : ¬ (Wi.endErr l.length (rCols l k x0 10).s.1 (rCols l k x0 10).s.2) = 0 := by simpa using hee
              have VV : dcM c f = (⟨zG, [], [], (0, 0)⟩, (Wi.endErr l.length (rCols l k x0 10).s.1 (rCols l k x0 10).s.2)) := by
                unfold dcM
                rw [if_neg (by simp [hcf]), if_neg (by simp [hop0]), ← hl, hR, if_pos hne]
              go_upto_region 47 with fail
              refine wp_region_lit ?_
              refine vt (zG.val nilS nilS) (ex_build rfl (bdM0 _)) hz (fun Yes zz kk s159 => ?_)
              replace s4 := ku s4
              replace s7 := ku s7
              replace hz := zz
              clear kk zz s2 s11
              refine vt _ (ex_move rfl (ev s7 rfl)) hz (fun Yet zz kk s160 => ?_)
              replace s4 := ku s4
              replace s159 := ku s159
              replace hz := zz
              clear kk zz s7 Yes
              refine vs (sets t1 (w.heap.size + 1) 0 (zG.cs nilS nilS)) (want_none rfl) (ex_st rfl (ev s4 rfl) (ev s159 rfl) (stM M0 zG nilS nilS rfl rfl)) rfl ?_
              have SPz := M0.putU zG nilS nilS
              obtain ⟨v1, hv1⟩ : ∃ y, y = sets t1 (w.heap.size + 1) 0 (zG.cs nilS nilS) := ⟨_, rfl⟩
              rw [← hv1] at SPz ⊢
              clear hv1
              refine vt _ (ex_assign rfl (ev s160 rfl)) hz (fun Yeu zz kk s5 => ?_)
              replace s4 := ku s4
              replace hz := zz
              clear kk zz s159 s160 Yet
              refine wpList_nil ?_
              have hfin : Below w.heap.size w v1 := hB.trans (SPz.2.below hB.size (by omega))
              go_wp2
              refine bodyPost_msg rfl s4 s5 SPz.1 ?_
              rw [VV]
              exact ⟨_, _, rfl, OwnY.nil _ _ _, OwnY.nil _ _ _, hfin⟩
            rw [hee] at s158
            refine wp_cond_false ((ev s158 rfl).trans rfl) ?_
            have hee0 : (Wi.endErr l.length (rCols l k x0 10).s.1 (rCols l k x0 10).s.2) = 0 := by simpa using hee
            clear s158 hee
            clear s7
            obtain ⟨sa, sc, hsv, _⟩ := OL2.form
            obtain ⟨ta, tc, htv, _⟩ := OD2.form
            subst hsv htv
            have hfits := rCols_fits l k x0 ⟨by rw [hx0L]; exact (fun e he => by cases he), by rw [hx0]; exact zG_fits⟩ 10
            go_upto_region 48 with fail
            refine wp_region_lit ?_
            refine vt (.agg #[.int .i64 c.f, .int .i64 c.r, .int .i64 c.p, .bool c.u]) (ex_ld rfl (ev s2 rfl) Cc.ldAll) hz (fun Yev zz kk s161 => ?_)
            replace s4 := ku s4
            replace s11 := ku s11
            replace hz := zz
            clear kk zz s2
            refine vt ((rCols l k x0 10).m.val (.slice sa (rCols l k x0 10).L.length sc) (.slice ta (rCols l k x0 10).D.length tc)) (ex_ld rfl (ev s11 rfl) MM2.ldAll) hz (fun Yew zz kk s162 => ?_)
            replace s4 := ku s4
            replace s11 := ku s11
            replace s161 := ku s161
            replace hz := zz
            clear kk zz Yev
            refine vcallP (want_none rfl) (ex_call rfl (by simp only [List.map_toArray, List.map_cons, List.map_nil, (ev s161 rfl), (ev s162 rfl), evc] <;> rfl) rfl) (refcheck7 c (rCols l k x0 10).m sa ta sc tc (rCols l k x0 10).L (rCols l k x0 10).D t1 (OwnY.sl' kE OL2) hfits.1 (OwnY.sl' kD OD2) hfits.2) rfl hz (by decide) ?_
            rintro e t2 ⟨rfl, hb⟩
            refine ⟨_, rfl, fun Yex zz kk s163 => ?_⟩
            replace Cc := Cc.bel hb
            replace M0 := M0.bel hb
            replace hB := hB.trans (hb.mono hB.size)
            have MM3 := MM2.bel hb
            have OL3 := OwnY.grow OL2 hb
            have OD3 := OwnY.grow OD2 hb
            clear MM2 OL2 OD2 hb
            replace s4 := ku s4
            replace s11 := ku s11
            replace hz := zz
            clear kk zz s161 s162 Yew
            refine vt _ (ex_assign rfl (ev s163 rfl)) hz (fun Yey zz kk s7 => ?_)
            replace s4 := ku s4
            replace s11 := ku s11
            replace hz := zz
            clear kk zz s163 Yex
            refine wpList_nil ?_
            go_upto_region 49 with fail
            refine wp_region_lit ?_
            refine vt _ (ex_move rfl (ev s7 rfl)) hz (fun Yez zz kk s164 => ?_)
            replace s4 := ku s4
            replace s7 := ku s7
            replace s11 := ku s11
            replace hz := zz
            clear kk zz
            refine vt (.bool (!decide ((ckM c (rCols l k x0 10).m (rCols l k x0 10).L (rCols l k x0 10).D) = 0))) (ex_bin rfl (ev s164 rfl) rfl (neqC _ _ _ _ _)) hz (fun Ye0 zz kk s165 => ?_)
            replace s4 := ku s4
            replace s7 := ku s7
            replace s11 := ku s11
            replace hz := zz
            clear kk zz s164 Yez
            refine wpList_nil ?_
            go_upto_region 51 with fail
            cases hck : !decide ((ckM c (rCols l k x0 10).m (rCols l k x0 10).L (rCols l k x0 10).D) = 0)
            rotate_left
            · rw [hck] at s165
              refine wp_cond_true ((ev s165 rfl).trans rfl) ?_
              clear s165
              have hne : ¬ (ckM c (rCols l k x0 10).m (rCols l k x0 10).L (rCols l k x0 10).D) = 0 := by simpa using hck
              have VV : dcM c f = (⟨zG, [], [], (0, 0)⟩, (ckM c (rCols l k x0 10).m (rCols l k x0 10).L (rCols l k x0 10).D)) := by
                unfold dcM
                rw [if_neg (by simp [hcf]), if_neg (by simp [hop0]), ← hl, hR, if_neg (by simp [hee0]), if_pos hne]
              go_upto_region 50 with fail
              refine wp_region_lit ?_
              refine vt (zG.val nilS nilS) (ex_build rfl (bdM0 _)) hz (fun Ye1 zz kk s166 => ?_)
              replace s4 := ku s4
              replace s7 := ku s7
              replace hz := zz
              clear kk zz s11
              refine vt _ (ex_move rfl (ev s7 rfl)) hz (fun Ye2 zz kk s167 => ?_)
              replace s4 := ku s4
              replace s166 := ku s166
              replace hz := zz
              clear kk zz s7 Ye1
              refine vs (sets t2 (w.heap.size + 1) 0 (zG.cs nilS nilS)) (want_none rfl) (ex_st rfl (ev s4 rfl) (ev s166 rfl) (stM M0 zG nilS nilS rfl rfl)) rfl ?_
              have SPz := M0.putU zG nilS nilS
              obtain ⟨v1, hv1⟩ : ∃ y, y = sets t2 (w.heap.size + 1) 0 (zG.cs nilS nilS) := ⟨_, rfl⟩
              rw [← hv1] at SPz ⊢
              clear hv1
              refine vt _ (ex_assign rfl (ev s167 rfl)) hz (fun Ye3 zz kk s5 => ?_)
              replace s4 := ku s4
              replace hz := zz
              clear kk zz s166 s167 Ye2
              refine wpList_nil ?_
              have hfin : Below w.heap.size w v1 := hB.trans (SPz.2.below hB.size (by omega))
              go_wp2
              refine bodyPost_msg rfl s4 s5 SPz.1 ?_
              rw [VV]
              exact ⟨_, _, rfl, OwnY.nil _ _ _, OwnY.nil _ _ _, hfin⟩
            rw [hck] at s165
            refine wp_cond_false ((ev s165 rfl).trans rfl) ?_
            have hck0 : (ckM c (rCols l k x0 10).m (rCols l k x0 10).L (rCols l k x0 10).D) = 0 := by simpa using hck
            clear s165 hck s7
            go_upto_region 51 with fail
            refine wp_region_lit ?_
            refine vt ((rCols l k x0 10).m.val (.slice sa (rCols l k x0 10).L.length sc) (.slice ta (rCols l k x0 10).D.length tc)) (ex_ld rfl (ev s11 rfl) MM3.ldAll) hz (fun Ye4 zz kk s168 => ?_)
            replace s4 := ku s4
            replace hz := zz
            clear kk zz s11
            refine vs (sets t2 (w.heap.size + 1) 0 ((rCols l k x0 10).m.cs (.slice sa (rCols l k x0 10).L.length sc) (.slice ta (rCols l k x0 10).D.length tc))) (want_none rfl) (ex_st rfl (ev s4 rfl) (ev s168 rfl) (stM M0 (rCols l k x0 10).m (.slice sa (rCols l k x0 10).L.length sc) (.slice ta (rCols l k x0 10).D.length tc) rfl rfl)) rfl ?_
            have SPz := M0.putU (rCols l k x0 10).m (.slice sa (rCols l k x0 10).L.length sc) (.slice ta (rCols l k x0 10).D.length tc)
            obtain ⟨v1, hv1⟩ : ∃ y, y = sets t2 (w.heap.size + 1) 0 ((rCols l k x0 10).m.cs (.slice sa (rCols l k x0 10).L.length sc) (.slice ta (rCols l k x0 10).D.length tc)) := ⟨_, rfl⟩
            rw [← hv1] at SPz ⊢
            clear hv1
            refine vt (.int .i64 0) (ex_assign rfl rfl) hz (fun Ye5 zz kk s5 => ?_)
            replace s4 := ku s4
            replace hz := zz
            clear kk zz s168 Ye4
            refine wpList_nil ?_
            have VV : dcM c f = ((rCols l k x0 10), 0) := by
              unfold dcM
              rw [if_neg (by simp [hcf]), if_neg (by simp [hop0]), ← hl, hR, if_neg (by simp [hee0]), if_neg (by simp [hck0])]
            have hfin : Below w.heap.size w v1 := hB.trans (SPz.2.below hB.size (by omega))
            have OL4 := OL3.far (S := fun x => x = w.heap.size + 1) SPz.2 (fun x hx => by omega)
            have OD4 := OD3.far (S := fun x => x = w.heap.size + 1) SPz.2 (fun x hx => by omega)
            go_wp2
            refine bodyPost_msg rfl s4 s5 SPz.1 ?_
            rw [VV]
            exact ⟨_, _, rfl, OL4.low (by omega), OD4.low (by omega), hfin⟩
end Go.Proofs.YtibedokegignhaaGreatDoor
