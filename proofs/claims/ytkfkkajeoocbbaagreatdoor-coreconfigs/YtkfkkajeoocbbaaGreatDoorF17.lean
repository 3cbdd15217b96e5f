import Derived.ChangeOld
import Derived.ProofKit
import Derived.OpenShut
import Derived.Deep.SlicePairs
import Derived.SizedLaws
import Derived.Test.YtkfkkajeoocbbaaGreatDoorRows
import Derived.Lib.LaidTab
import Derived.MakeChecks
import Derived.Test.YtkfkkajeoocbbaaGreatDoorF16
set_option maxRecDepth 100000
set_option linter.unusedVariables false
set_option linter.unusedSimpArgs false
namespace Go.Proofs.YtkfkkajeoocbbaaGreatDoor
open Go.RowKit Go.Maps Go.Shelf
open Classical
set_option maxHeartbeats 1000000 in
theorem configs9 (c : Cg) (x y : Int) (d : Dr9) (w : World) (hT : Tab w) : Calls Tryz.prog 3 #[c.val, .int .i64 x, .int .i64 y, d.val] w fun e w' => e = .returned (.bool true) ∧ Below w.heap.size w w' := by
  go_enter Tryz.func3, Tryz.ntmps3
  go_upto_region 0 with fail
  refine wp_region_lit ?_
  refine vl_gen (fun T => T.size = 90 ∧ T[0]? = some (gw true (c.val)) ∧ T[3]? = some (gw true (d.val)) ∧ T[1]? = some (gw true (.int .i64 x)) ∧ T[2]? = some (gw true (.int .i64 y))) ⟨rfl, rfl, rfl, rfl, rfl⟩ (fun Z0 ⟨hz, s0, s3, s1, s2⟩ => ?_)
  obtain ⟨w1, hw1⟩ : ∃ y, y = w.alloc (.cells c.cs.toArray 23) := ⟨_, rfl⟩
  have hb : Below w.heap.size w w1 := by rw [hw1]; exact (Below.refl _ _).alloc (Nat.le_refl _) _
  have hs1 : w1.heap.size = w.heap.size + 1 := by rw [hw1]; simp
  have HC : CB7 w1 (w.heap.size) c := by rw [hw1]; exact BX7.new _ _ _
  refine vw (.pointer (some ⟨w.heap.size, 0, none⟩)) w1 (want_none rfl) (ex_box8 rfl (ev s0 rfl) (by rw [hw1]; exact bxC7 _ _)) rfl hz (by decide) (fun Z1 zz kk s4x => ?_)
  replace s3 := ku s3
  replace s1 := ku s1
  replace s2 := ku s2
  clear kk hz s0 hw1
  have hz := zz
  have s4 := s4x
  clear zz s4x
  have hB := hb
  clear hb
  obtain ⟨w2, hw2⟩ : ∃ y, y = w1.alloc (.cells d.cs.toArray 26) := ⟨_, rfl⟩
  have hb : Below w1.heap.size w1 w2 := by rw [hw2]; exact (Below.refl _ _).alloc (Nat.le_refl _) _
  have hs2 : w2.heap.size = w.heap.size + 2 := by rw [hw2]; simp; omega
  have HD : DRB9 w2 (w.heap.size + 1) d := by rw [hw2, ← hs1]; exact BX7.new _ _ _
  refine vw (.pointer (some ⟨w.heap.size + 1, 0, none⟩)) w2 (want_none rfl) (ex_box8 rfl (ev s3 rfl) (by rw [hw2, ← hs1]; exact bxDr9 _ _)) rfl hz (by decide) (fun Z2 zz kk s7x => ?_)
  replace s1 := ku s1
  replace s2 := ku s2
  replace s4 := ku s4
  clear kk hz s3 hw2
  have hz := zz
  have s7 := s7x
  clear zz s7x
  have hB := hB.trans (hb.mono (by omega))
  have HC := HC.bel hb
  clear hb
  have hv0 : Below w2.heap.size w2 w2 := Below.refl _ _
  refine vt (.bool false) (ex_assign rfl rfl) hz (fun Ya zz kk s8 => ?_)
  replace s1 := ku s1
  replace s2 := ku s2
  replace s4 := ku s4
  replace s7 := ku s7
  replace hz := zz
  clear kk zz
  clear s8
  refine wpList_nil ?_
  clear hv0
  have hB0 := hB.size
  go_upto_region 1 with fail
  refine wp_region_lit ?_
  refine vt (c.val) (ex_ld rfl (ev s4 rfl) (CB7.ld HC)) hz (fun Yb zz kk s18 => ?_)
  replace s1 := ku s1
  replace s2 := ku s2
  replace s4 := ku s4
  replace s7 := ku s7
  replace hz := zz
  clear kk zz
  refine vt _ (ex_move rfl (ev s2 rfl)) hz (fun Yc zz kk s19 => ?_)
  replace s1 := ku s1
  replace s2 := ku s2
  replace s4 := ku s4
  replace s7 := ku s7
  replace s18 := ku s18
  replace hz := zz
  clear kk zz Yb
  refine vcallP (want_none rfl) (ex_call rfl (by simp only [List.map_toArray, List.map_cons, List.map_nil, (ev s18 rfl), (ev s19 rfl), evc] <;> rfl) rfl) (first9 c y w2) rfl hz (by decide) ?_
  rintro e a1 ⟨a, rfl, ja, fa, hb⟩
  refine ⟨_, rfl, fun Yd zz kk s20 => ?_⟩
  have HC := HC.bel hb
  have HD := HD.bel hb
  have hB := hB.trans (hb.mono hB0)
  have hB0 := hB.size
  clear hb
  obtain ⟨qa, hqa⟩ : ∃ z, z = a1.heap.size := ⟨_, rfl⟩
  obtain ⟨a2, ha2⟩ : ∃ y, y = a1.alloc (.cells zS8.cs.toArray 36) := ⟨_, rfl⟩
  have ba : Below a1.heap.size a1 a2 := by rw [ha2]; exact (Below.refl _ _).alloc (Nat.le_refl _) _
  have HQ : SB7 a2 qa zS8 := by rw [ha2, hqa]; exact BX7.new _ _ _
  have za := ba.size
  have lq := HQ.lt
  replace s1 := ku s1
  replace s2 := ku s2
  replace s4 := ku s4
  replace s7 := ku s7
  replace hz := zz
  clear kk zz s18 s19 Yc
  refine vt _ (ex_move rfl (ev s20 rfl)) hz (fun Ye zz kk s17 => ?_)
  replace s1 := ku s1
  replace s2 := ku s2
  replace s4 := ku s4
  replace s7 := ku s7
  replace hz := zz
  clear kk zz s20 Yd
  refine vt (a.val) (ex_ext8 rfl (ev s17 rfl) rfl) hz (fun Yf zz kk s21 => ?_)
  replace s1 := ku s1
  replace s2 := ku s2
  replace s4 := ku s4
  replace s7 := ku s7
  replace s17 := ku s17
  replace hz := zz
  clear kk zz Ye
  refine vt (.int .i64 (fvE9 c y)) (ex_ext8 rfl (ev s17 rfl) rfl) hz (fun Yg zz kk s22 => ?_)
  replace s1 := ku s1
  replace s2 := ku s2
  replace s4 := ku s4
  replace s7 := ku s7
  replace s21 := ku s21
  replace hz := zz
  clear kk zz s17 Yf
  refine vw (.pointer (some ⟨qa, 0, none⟩)) a2 (want_none rfl) (ex_al rfl (by rw [ha2, hqa]; exact al12 _)) rfl hz (by decide) (fun Yh zz kk s9 => ?_)
  replace s1 := ku s1
  replace s2 := ku s2
  replace s4 := ku s4
  replace s7 := ku s7
  replace s21 := ku s21
  replace s22 := ku s22
  replace hz := zz
  clear kk zz Yg
  refine vs (sets a2 qa 0 a.cs) (want_none rfl) (ex_st rfl (ev s9 rfl) (ev s21 rfl) (st12 HQ a)) rfl ?_
  have Ha := SB7.put HQ a
  have UT := upd12 a2 qa a
  obtain ⟨a3, ha3⟩ : ∃ v, v = sets a2 qa 0 a.cs := ⟨_, rfl⟩
  rw [← ha3] at Ha UT ⊢
  clear ha3 ha2
  have hb : Below a1.heap.size a1 a3 := ba.trans (UT.below (by omega) (fun k hk => by omega))
  have ja := ja.later hb
  have HC := HC.bel hb
  have HD := HD.bel hb
  have hB := hB.trans (hb.mono hB0)
  have hB0 := hB.size
  clear hb UT HQ ba za lq
  refine vt _ (ex_assign rfl (ev s22 rfl)) hz (fun Yi zz kk s10 => ?_)
  replace s1 := ku s1
  replace s2 := ku s2
  replace s4 := ku s4
  replace s7 := ku s7
  replace s9 := ku s9
  replace hz := zz
  clear kk zz s21 s22 Yh
  refine wpList_nil ?_
  go_upto_region 2 with fail
  refine wp_region_lit ?_
  refine vt (c.val) (ex_ld rfl (ev s4 rfl) (CB7.ld HC)) hz (fun Yj zz kk s24 => ?_)
  replace s1 := ku s1
  replace s2 := ku s2
  replace s4 := ku s4
  replace s7 := ku s7
  replace s9 := ku s9
  replace s10 := ku s10
  replace hz := zz
  clear kk zz
  refine vt _ (ex_move rfl (ev s2 rfl)) hz (fun Yk zz kk s25 => ?_)
  replace s1 := ku s1
  replace s2 := ku s2
  replace s4 := ku s4
  replace s7 := ku s7
  replace s9 := ku s9
  replace s10 := ku s10
  replace s24 := ku s24
  replace hz := zz
  clear kk zz Yj
  refine vcallP (want_none rfl) (ex_call rfl (by simp only [List.map_toArray, List.map_cons, List.map_nil, (ev s24 rfl), (ev s25 rfl), evc] <;> rfl) rfl) (rfirst9 c y a3) rfl hz (by decide) ?_
  rintro e b1 ⟨b, rfl, jb, fb, hb⟩
  refine ⟨_, rfl, fun Yl zz kk s26 => ?_⟩
  have HC := HC.bel hb
  have HD := HD.bel hb
  have hB := hB.trans (hb.mono hB0)
  have hB0 := hB.size
  have Ha := Ha.bel hb
  have ja := ja.later hb
  clear hb
  obtain ⟨qb, hqb⟩ : ∃ z, z = b1.heap.size := ⟨_, rfl⟩
  obtain ⟨b2, hb2⟩ : ∃ y, y = b1.alloc (.cells zS8.cs.toArray 36) := ⟨_, rfl⟩
  have ba : Below b1.heap.size b1 b2 := by rw [hb2]; exact (Below.refl _ _).alloc (Nat.le_refl _) _
  have HQ : SB7 b2 qb zS8 := by rw [hb2, hqb]; exact BX7.new _ _ _
  have za := ba.size
  have lq := HQ.lt
  replace s1 := ku s1
  replace s2 := ku s2
  replace s4 := ku s4
  replace s7 := ku s7
  replace s9 := ku s9
  replace s10 := ku s10
  replace hz := zz
  clear kk zz s24 s25 Yk
  refine vt _ (ex_move rfl (ev s26 rfl)) hz (fun Ym zz kk s23 => ?_)
  replace s1 := ku s1
  replace s2 := ku s2
  replace s4 := ku s4
  replace s7 := ku s7
  replace s9 := ku s9
  replace s10 := ku s10
  replace hz := zz
  clear kk zz s26 Yl
  refine vt (b.val) (ex_ext8 rfl (ev s23 rfl) rfl) hz (fun Yn zz kk s27 => ?_)
  replace s1 := ku s1
  replace s2 := ku s2
  replace s4 := ku s4
  replace s7 := ku s7
  replace s9 := ku s9
  replace s10 := ku s10
  replace s23 := ku s23
  replace hz := zz
  clear kk zz Ym
  refine vt (.int .i64 (fvE9 c y)) (ex_ext8 rfl (ev s23 rfl) rfl) hz (fun Yo zz kk s28 => ?_)
  replace s1 := ku s1
  replace s2 := ku s2
  replace s4 := ku s4
  replace s7 := ku s7
  replace s9 := ku s9
  replace s10 := ku s10
  replace s27 := ku s27
  replace hz := zz
  clear kk zz s23 Yn
  refine vw (.pointer (some ⟨qb, 0, none⟩)) b2 (want_none rfl) (ex_al rfl (by rw [hb2, hqb]; exact al12 _)) rfl hz (by decide) (fun Yp zz kk s11 => ?_)
  replace s1 := ku s1
  replace s2 := ku s2
  replace s4 := ku s4
  replace s7 := ku s7
  replace s9 := ku s9
  replace s10 := ku s10
  replace s27 := ku s27
  replace s28 := ku s28
  replace hz := zz
  clear kk zz Yo
  refine vs (sets b2 qb 0 b.cs) (want_none rfl) (ex_st rfl (ev s11 rfl) (ev s27 rfl) (st12 HQ b)) rfl ?_
  have Hb := SB7.put HQ b
  have UT := upd12 b2 qb b
  obtain ⟨b3, hb3⟩ : ∃ v, v = sets b2 qb 0 b.cs := ⟨_, rfl⟩
  rw [← hb3] at Hb UT ⊢
  clear hb3 hb2
  have hb : Below b1.heap.size b1 b3 := ba.trans (UT.below (by omega) (fun k hk => by omega))
  have jb := jb.later hb
  have HC := HC.bel hb
  have HD := HD.bel hb
  have hB := hB.trans (hb.mono hB0)
  have hB0 := hB.size
  have Ha := Ha.bel hb
  have ja := ja.later hb
  clear hb UT HQ ba za lq
  refine vt _ (ex_assign rfl (ev s28 rfl)) hz (fun Yq zz kk s12 => ?_)
  replace s1 := ku s1
  replace s2 := ku s2
  replace s4 := ku s4
  replace s7 := ku s7
  replace s9 := ku s9
  replace s10 := ku s10
  replace s11 := ku s11
  replace hz := zz
  clear kk zz s27 s28 Yp
  refine wpList_nil ?_
  go_upto_region 3 with fail
  refine wp_region_lit ?_
  refine vt (c.val) (ex_ld rfl (ev s4 rfl) (CB7.ld HC)) hz (fun Yr zz kk s30 => ?_)
  replace s1 := ku s1
  replace s2 := ku s2
  replace s4 := ku s4
  replace s7 := ku s7
  replace s9 := ku s9
  replace s10 := ku s10
  replace s11 := ku s11
  replace s12 := ku s12
  replace hz := zz
  clear kk zz
  refine vt _ (ex_move rfl (ev s2 rfl)) hz (fun Ys zz kk s31 => ?_)
  replace s1 := ku s1
  replace s2 := ku s2
  replace s4 := ku s4
  replace s7 := ku s7
  replace s9 := ku s9
  replace s10 := ku s10
  replace s11 := ku s11
  replace s12 := ku s12
  replace s30 := ku s30
  replace hz := zz
  clear kk zz Yr
  refine vt (d.val) (ex_ld rfl (ev s7 rfl) (DRB9.ld HD)) hz (fun Yt zz kk s32 => ?_)
  replace s1 := ku s1
  replace s2 := ku s2
  replace s4 := ku s4
  replace s7 := ku s7
  replace s9 := ku s9
  replace s10 := ku s10
  replace s11 := ku s11
  replace s12 := ku s12
  replace s30 := ku s30
  replace s31 := ku s31
  replace hz := zz
  clear kk zz Ys
  refine vcallP (want_none rfl) (ex_call rfl (by simp only [List.map_toArray, List.map_cons, List.map_nil, (ev s30 rfl), (ev s31 rfl), (ev s32 rfl), evc] <;> rfl) rfl) (reborn9 c y d b3) rfl hz (by decide) ?_
  rintro e f1 ⟨f, rfl, jf, ff, hb⟩
  refine ⟨_, rfl, fun Yu zz kk s33 => ?_⟩
  have HC := HC.bel hb
  have HD := HD.bel hb
  have hB := hB.trans (hb.mono hB0)
  have hB0 := hB.size
  have Ha := Ha.bel hb
  have ja := ja.later hb
  have Hb := Hb.bel hb
  have jb := jb.later hb
  clear hb
  obtain ⟨qf, hqf⟩ : ∃ z, z = f1.heap.size := ⟨_, rfl⟩
  obtain ⟨f2, hf2⟩ : ∃ y, y = f1.alloc (.cells zS8.cs.toArray 36) := ⟨_, rfl⟩
  have ba : Below f1.heap.size f1 f2 := by rw [hf2]; exact (Below.refl _ _).alloc (Nat.le_refl _) _
  have HQ : SB7 f2 qf zS8 := by rw [hf2, hqf]; exact BX7.new _ _ _
  have za := ba.size
  have lq := HQ.lt
  replace s1 := ku s1
  replace s2 := ku s2
  replace s4 := ku s4
  replace s7 := ku s7
  replace s9 := ku s9
  replace s10 := ku s10
  replace s11 := ku s11
  replace s12 := ku s12
  replace hz := zz
  clear kk zz s30 s31 s32 Yt
  refine vt _ (ex_move rfl (ev s33 rfl)) hz (fun Yv zz kk s29 => ?_)
  replace s1 := ku s1
  replace s2 := ku s2
  replace s4 := ku s4
  replace s7 := ku s7
  replace s9 := ku s9
  replace s10 := ku s10
  replace s11 := ku s11
  replace s12 := ku s12
  replace hz := zz
  clear kk zz s33 Yu
  refine vt (f.val) (ex_ext8 rfl (ev s29 rfl) rfl) hz (fun Yw zz kk s34 => ?_)
  replace s1 := ku s1
  replace s2 := ku s2
  replace s4 := ku s4
  replace s7 := ku s7
  replace s9 := ku s9
  replace s10 := ku s10
  replace s11 := ku s11
  replace s12 := ku s12
  replace s29 := ku s29
  replace hz := zz
  clear kk zz Yv
  refine vt (.int .i64 (rbE9 c y d)) (ex_ext8 rfl (ev s29 rfl) rfl) hz (fun Yx zz kk s35 => ?_)
  replace s1 := ku s1
  replace s2 := ku s2
  replace s4 := ku s4
  replace s7 := ku s7
  replace s9 := ku s9
  replace s10 := ku s10
  replace s11 := ku s11
  replace s12 := ku s12
  replace s34 := ku s34
  replace hz := zz
  clear kk zz s29 Yw
  refine vw (.pointer (some ⟨qf, 0, none⟩)) f2 (want_none rfl) (ex_al rfl (by rw [hf2, hqf]; exact al12 _)) rfl hz (by decide) (fun Yy zz kk s13 => ?_)
  replace s1 := ku s1
  replace s2 := ku s2
  replace s4 := ku s4
  replace s7 := ku s7
  replace s9 := ku s9
  replace s10 := ku s10
  replace s11 := ku s11
  replace s12 := ku s12
  replace s34 := ku s34
  replace s35 := ku s35
  replace hz := zz
  clear kk zz Yx
  refine vs (sets f2 qf 0 f.cs) (want_none rfl) (ex_st rfl (ev s13 rfl) (ev s34 rfl) (st12 HQ f)) rfl ?_
  have Hf := SB7.put HQ f
  have UT := upd12 f2 qf f
  obtain ⟨f3, hf3⟩ : ∃ v, v = sets f2 qf 0 f.cs := ⟨_, rfl⟩
  rw [← hf3] at Hf UT ⊢
  clear hf3 hf2
  have hb : Below f1.heap.size f1 f3 := ba.trans (UT.below (by omega) (fun k hk => by omega))
  have jf := jf.later hb
  have HC := HC.bel hb
  have HD := HD.bel hb
  have hB := hB.trans (hb.mono hB0)
  have hB0 := hB.size
  have Ha := Ha.bel hb
  have ja := ja.later hb
  have Hb := Hb.bel hb
  have jb := jb.later hb
  clear hb UT HQ ba za lq
  refine vt _ (ex_assign rfl (ev s35 rfl)) hz (fun Yz zz kk s14 => ?_)
  replace s1 := ku s1
  replace s2 := ku s2
  replace s4 := ku s4
  replace s7 := ku s7
  replace s9 := ku s9
  replace s10 := ku s10
  replace s11 := ku s11
  replace s12 := ku s12
  replace s13 := ku s13
  replace hz := zz
  clear kk zz s34 s35 Yy
  refine wpList_nil ?_
  go_upto_region 4 with fail
  refine wp_region_lit ?_
  refine vt (c.val) (ex_ld rfl (ev s4 rfl) (CB7.ld HC)) hz (fun Y0 zz kk s37 => ?_)
  replace s1 := ku s1
  replace s2 := ku s2
  replace s4 := ku s4
  replace s7 := ku s7
  replace s9 := ku s9
  replace s10 := ku s10
  replace s11 := ku s11
  replace s12 := ku s12
  replace s13 := ku s13
  replace s14 := ku s14
  replace hz := zz
  clear kk zz
  refine vt _ (ex_move rfl (ev s2 rfl)) hz (fun Y1 zz kk s38 => ?_)
  replace s1 := ku s1
  replace s4 := ku s4
  replace s7 := ku s7
  replace s9 := ku s9
  replace s10 := ku s10
  replace s11 := ku s11
  replace s12 := ku s12
  replace s13 := ku s13
  replace s14 := ku s14
  replace s37 := ku s37
  replace hz := zz
  clear kk zz s2 Y0
  refine vt (d.val) (ex_ld rfl (ev s7 rfl) (DRB9.ld HD)) hz (fun Y2 zz kk s39 => ?_)
  replace s1 := ku s1
  replace s4 := ku s4
  replace s9 := ku s9
  replace s10 := ku s10
  replace s11 := ku s11
  replace s12 := ku s12
  replace s13 := ku s13
  replace s14 := ku s14
  replace s37 := ku s37
  replace s38 := ku s38
  replace hz := zz
  clear kk zz s7 Y1
  refine vcallP (want_none rfl) (ex_call rfl (by simp only [List.map_toArray, List.map_cons, List.map_nil, (ev s37 rfl), (ev s38 rfl), (ev s39 rfl), evc] <;> rfl) rfl) (rreborn9 c y d f3) rfl hz (by decide) ?_
  rintro e g1 ⟨g, rfl, jg, fg, hb⟩
  refine ⟨_, rfl, fun Y3 zz kk s40 => ?_⟩
  have HC := HC.bel hb
  have HD := HD.bel hb
  have hB := hB.trans (hb.mono hB0)
  have hB0 := hB.size
  have Ha := Ha.bel hb
  have ja := ja.later hb
  have Hb := Hb.bel hb
  have jb := jb.later hb
  have Hf := Hf.bel hb
  have jf := jf.later hb
  clear hb
  obtain ⟨qg, hqg⟩ : ∃ z, z = g1.heap.size := ⟨_, rfl⟩
  obtain ⟨g2, hg2⟩ : ∃ y, y = g1.alloc (.cells zS8.cs.toArray 36) := ⟨_, rfl⟩
  have ba : Below g1.heap.size g1 g2 := by rw [hg2]; exact (Below.refl _ _).alloc (Nat.le_refl _) _
  have HQ : SB7 g2 qg zS8 := by rw [hg2, hqg]; exact BX7.new _ _ _
  have za := ba.size
  have lq := HQ.lt
  replace s1 := ku s1
  replace s4 := ku s4
  replace s9 := ku s9
  replace s10 := ku s10
  replace s11 := ku s11
  replace s12 := ku s12
  replace s13 := ku s13
  replace s14 := ku s14
  replace hz := zz
  clear kk zz s37 s38 s39 Y2
  refine vt _ (ex_move rfl (ev s40 rfl)) hz (fun Y4 zz kk s36 => ?_)
  replace s1 := ku s1
  replace s4 := ku s4
  replace s9 := ku s9
  replace s10 := ku s10
  replace s11 := ku s11
  replace s12 := ku s12
  replace s13 := ku s13
  replace s14 := ku s14
  replace hz := zz
  clear kk zz s40 Y3
  refine vt (g.val) (ex_ext8 rfl (ev s36 rfl) rfl) hz (fun Y5 zz kk s41 => ?_)
  replace s1 := ku s1
  replace s4 := ku s4
  replace s9 := ku s9
  replace s10 := ku s10
  replace s11 := ku s11
  replace s12 := ku s12
  replace s13 := ku s13
  replace s14 := ku s14
  replace s36 := ku s36
  replace hz := zz
  clear kk zz Y4
  refine vt (.int .i64 (rbE9 c y d)) (ex_ext8 rfl (ev s36 rfl) rfl) hz (fun Y6 zz kk s42 => ?_)
  replace s1 := ku s1
  replace s4 := ku s4
  replace s9 := ku s9
  replace s10 := ku s10
  replace s11 := ku s11
  replace s12 := ku s12
  replace s13 := ku s13
  replace s14 := ku s14
  replace s41 := ku s41
  replace hz := zz
  clear kk zz s36 Y5
  refine vw (.pointer (some ⟨qg, 0, none⟩)) g2 (want_none rfl) (ex_al rfl (by rw [hg2, hqg]; exact al12 _)) rfl hz (by decide) (fun Y7 zz kk s15 => ?_)
  replace s1 := ku s1
  replace s4 := ku s4
  replace s9 := ku s9
  replace s10 := ku s10
  replace s11 := ku s11
  replace s12 := ku s12
  replace s13 := ku s13
  replace s14 := ku s14
  replace s41 := ku s41
  replace s42 := ku s42
  replace hz := zz
  clear kk zz Y6
  refine vs (sets g2 qg 0 g.cs) (want_none rfl) (ex_st rfl (ev s15 rfl) (ev s41 rfl) (st12 HQ g)) rfl ?_
  have Hg := SB7.put HQ g
  have UT := upd12 g2 qg g
  obtain ⟨g3, hg3⟩ : ∃ v, v = sets g2 qg 0 g.cs := ⟨_, rfl⟩
  rw [← hg3] at Hg UT ⊢
  clear hg3 hg2
  have hb : Below g1.heap.size g1 g3 := ba.trans (UT.below (by omega) (fun k hk => by omega))
  have jg := jg.later hb
  have HC := HC.bel hb
  have HD := HD.bel hb
  have hB := hB.trans (hb.mono hB0)
  have hB0 := hB.size
  have Ha := Ha.bel hb
  have ja := ja.later hb
  have Hb := Hb.bel hb
  have jb := jb.later hb
  have Hf := Hf.bel hb
  have jf := jf.later hb
  clear hb UT HQ ba za lq
  refine vt _ (ex_assign rfl (ev s42 rfl)) hz (fun Y8 zz kk s16 => ?_)
  replace s1 := ku s1
  replace s4 := ku s4
  replace s9 := ku s9
  replace s10 := ku s10
  replace s11 := ku s11
  replace s12 := ku s12
  replace s13 := ku s13
  replace s14 := ku s14
  replace s15 := ku s15
  replace hz := zz
  clear kk zz s41 s42 Y7
  refine wpList_nil ?_
  have al1 := fs_al9 fa fb
  have al2 := rb_al9 ff fg
  have hvc : Below g3.heap.size g3 g3 := Below.refl _ _
  have hT9 := hT.later hB hT.lt
  go_upto_region 5 with fail
  refine vq_start (C := fun v => Below g3.heap.size g3 v) (by kernel_rfl) (by kernel_rfl) hvc.drew ?_
  refine vq true (c.val) (want_none rfl) (fun hc v hv => ex_ld rfl (ev s4 rfl) (CB7.ld (HC.bel hv))) rfl hz (by decide) (fun Y9 zz kk s43 => ?_)
  replace s1 := ku s1
  replace s4 := ku s4
  replace s9 := ku s9
  replace s10 := ku s10
  replace s11 := ku s11
  replace s12 := ku s12
  replace s13 := ku s13
  replace s14 := ku s14
  replace s15 := ku s15
  replace s16 := ku s16
  replace hz := zz
  clear kk zz
  refine vq_call true (.int .i64 c.er) (want_none rfl) (fun hc v hv => ex_call rfl (by simp only [List.map_toArray, List.map_cons, List.map_nil, (ev s43 rfl), evc] <;> rfl) rfl) (fun hc v hv => (bel8 hv (checkconfig8 c v))) rfl hz (by decide) (fun Yba zz kk s44 => ?_)
  replace s1 := ku s1
  replace s4 := ku s4
  replace s9 := ku s9
  replace s10 := ku s10
  replace s11 := ku s11
  replace s12 := ku s12
  replace s13 := ku s13
  replace s14 := ku s14
  replace s15 := ku s15
  replace s16 := ku s16
  replace hz := zz
  clear kk zz s43 Y9
  refine vq_call true (.int .i64 c.er) (want_none rfl) (fun hc v hv => ex_call rfl (by simp only [List.map_toArray, List.map_cons, List.map_nil, (ev s44 rfl), evc] <;> rfl) rfl) (fun hc v hv => (bel8 hv (num9 (c.er) v))) rfl hz (by decide) (fun Ybb zz kk s45 => ?_)
  replace s1 := ku s1
  replace s4 := ku s4
  replace s9 := ku s9
  replace s10 := ku s10
  replace s11 := ku s11
  replace s12 := ku s12
  replace s13 := ku s13
  replace s14 := ku s14
  replace s15 := ku s15
  replace s16 := ku s16
  replace hz := zz
  clear kk zz s44 Yba
  refine vq true (c.val) (want_none rfl) (fun hc v hv => ex_ld rfl (ev s4 rfl) (CB7.ld (HC.bel hv))) rfl hz (by decide) (fun Ybc zz kk s46 => ?_)
  replace s1 := ku s1
  replace s4 := ku s4
  replace s9 := ku s9
  replace s10 := ku s10
  replace s11 := ku s11
  replace s12 := ku s12
  replace s13 := ku s13
  replace s14 := ku s14
  replace s15 := ku s15
  replace s16 := ku s16
  replace s45 := ku s45
  replace hz := zz
  clear kk zz Ybb
  refine vq_call true (.int .i64 c.er) (want_none rfl) (fun hc v hv => ex_call rfl (by simp only [List.map_toArray, List.map_cons, List.map_nil, (ev s46 rfl), evc] <;> rfl) rfl) (fun hc v hv => (bel8 hv (rcheckconfig9 c v))) rfl hz (by decide) (fun Ybd zz kk s47 => ?_)
  replace s1 := ku s1
  replace s4 := ku s4
  replace s9 := ku s9
  replace s10 := ku s10
  replace s11 := ku s11
  replace s12 := ku s12
  replace s13 := ku s13
  replace s14 := ku s14
  replace s15 := ku s15
  replace s16 := ku s16
  replace s45 := ku s45
  replace hz := zz
  clear kk zz s46 Ybc
  refine vq true (.bool true) (want_none rfl) (fun hc v hv => ex_bin rfl (ev s45 rfl) (ev s47 rfl) (eqlI9 _ _ _ _ rfl _)) rfl hz (by decide) (fun Ybe zz kk s48 => ?_)
  replace s1 := ku s1
  replace s4 := ku s4
  replace s9 := ku s9
  replace s10 := ku s10
  replace s11 := ku s11
  replace s12 := ku s12
  replace s13 := ku s13
  replace s14 := ku s14
  replace s15 := ku s15
  replace s16 := ku s16
  replace hz := zz
  clear kk zz s45 s47 Ybd
  refine vq true _ (want_none rfl) (fun hc v hv => ex_move rfl (ev s48 rfl)) rfl hz (by decide) (fun Ybf zz kk s49 => ?_)
  replace s1 := ku s1
  replace s4 := ku s4
  replace s9 := ku s9
  replace s10 := ku s10
  replace s11 := ku s11
  replace s12 := ku s12
  replace s13 := ku s13
  replace s14 := ku s14
  replace s15 := ku s15
  replace s16 := ku s16
  replace hz := zz
  clear kk zz s48 Ybe
  refine vq true (c.val) (want_k rfl rfl s49) (fun hc v hv => ex_ld rfl (ev s4 rfl) (CB7.ld (HC.bel hv))) rfl hz (by decide) (fun Ybg zz kk s50 => ?_)
  replace s1 := ku s1
  replace s4 := ku s4
  replace s9 := ku s9
  replace s10 := ku s10
  replace s11 := ku s11
  replace s12 := ku s12
  replace s13 := ku s13
  replace s14 := ku s14
  replace s15 := ku s15
  replace s16 := ku s16
  replace s49 := ku s49
  replace hz := zz
  clear kk zz Ybf
  refine vq_call true (.int .i64 c.nd) (want_k rfl rfl s49) (fun hc v hv => ex_call rfl (by simp only [List.map_toArray, List.map_cons, List.map_nil, (ev s50 rfl), evc] <;> rfl) rfl) (fun hc v hv => (bel8 hv (nodes8 c v))) rfl hz (by decide) (fun Ybh zz kk s51 => ?_)
  replace s1 := ku s1
  replace s4 := ku s4
  replace s9 := ku s9
  replace s10 := ku s10
  replace s11 := ku s11
  replace s12 := ku s12
  replace s13 := ku s13
  replace s14 := ku s14
  replace s15 := ku s15
  replace s16 := ku s16
  replace s49 := ku s49
  replace hz := zz
  clear kk zz s50 Ybg
  refine vq true (c.val) (want_k rfl rfl s49) (fun hc v hv => ex_ld rfl (ev s4 rfl) (CB7.ld (HC.bel hv))) rfl hz (by decide) (fun Ybi zz kk s52 => ?_)
  replace s1 := ku s1
  replace s4 := ku s4
  replace s9 := ku s9
  replace s10 := ku s10
  replace s11 := ku s11
  replace s12 := ku s12
  replace s13 := ku s13
  replace s14 := ku s14
  replace s15 := ku s15
  replace s16 := ku s16
  replace s49 := ku s49
  replace s51 := ku s51
  replace hz := zz
  clear kk zz Ybh
  refine vq_call true (.int .i64 c.nd) (want_k rfl rfl s49) (fun hc v hv => ex_call rfl (by simp only [List.map_toArray, List.map_cons, List.map_nil, (ev s52 rfl), evc] <;> rfl) rfl) (fun hc v hv => (bel8 hv (rnodes9 c v))) rfl hz (by decide) (fun Ybj zz kk s53 => ?_)
  replace s1 := ku s1
  replace s4 := ku s4
  replace s9 := ku s9
  replace s10 := ku s10
  replace s11 := ku s11
  replace s12 := ku s12
  replace s13 := ku s13
  replace s14 := ku s14
  replace s15 := ku s15
  replace s16 := ku s16
  replace s49 := ku s49
  replace s51 := ku s51
  replace hz := zz
  clear kk zz s52 Ybi
  refine vq true (.bool true) (want_k rfl rfl s49) (fun hc v hv => ex_bin rfl (ev s51 rfl) (ev s53 rfl) (eqlI9 _ _ _ _ rfl _)) rfl hz (by decide) (fun Ybk zz kk s54 => ?_)
  replace s1 := ku s1
  replace s4 := ku s4
  replace s9 := ku s9
  replace s10 := ku s10
  replace s11 := ku s11
  replace s12 := ku s12
  replace s13 := ku s13
  replace s14 := ku s14
  replace s15 := ku s15
  replace s16 := ku s16
  replace s49 := ku s49
  replace hz := zz
  clear kk zz s51 s53 Ybj
  refine vq true (.bool true) (want_none rfl) (fun hc v hv => ex_and rfl s49 s54 rfl) rfl hz (by decide) (fun Ybl zz kk s55 => ?_)
  replace s1 := ku s1
  replace s4 := ku s4
  replace s9 := ku s9
  replace s10 := ku s10
  replace s11 := ku s11
  replace s12 := ku s12
  replace s13 := ku s13
  replace s14 := ku s14
  replace s15 := ku s15
  replace s16 := ku s16
  replace hz := zz
  clear kk zz s49 s54 Ybk
  refine vq true _ (want_none rfl) (fun hc v hv => ex_move rfl (ev s55 rfl)) rfl hz (by decide) (fun Ybm zz kk s56 => ?_)
  replace s1 := ku s1
  replace s4 := ku s4
  replace s9 := ku s9
  replace s10 := ku s10
  replace s11 := ku s11
  replace s12 := ku s12
  replace s13 := ku s13
  replace s14 := ku s14
  replace s15 := ku s15
  replace s16 := ku s16
  replace hz := zz
  clear kk zz s55 Ybl
  refine vq true (c.val) (want_k rfl rfl s56) (fun hc v hv => ex_ld rfl (ev s4 rfl) (CB7.ld (HC.bel hv))) rfl hz (by decide) (fun Ybn zz kk s57 => ?_)
  replace s1 := ku s1
  replace s4 := ku s4
  replace s9 := ku s9
  replace s10 := ku s10
  replace s11 := ku s11
  replace s12 := ku s12
  replace s13 := ku s13
  replace s14 := ku s14
  replace s15 := ku s15
  replace s16 := ku s16
  replace s56 := ku s56
  replace hz := zz
  clear kk zz Ybm
  refine vq true _ (want_k rfl rfl s56) (fun hc v hv => ex_move rfl (ev s1 rfl)) rfl hz (by decide) (fun Ybo zz kk s58 => ?_)
  replace s1 := ku s1
  replace s4 := ku s4
  replace s9 := ku s9
  replace s10 := ku s10
  replace s11 := ku s11
  replace s12 := ku s12
  replace s13 := ku s13
  replace s14 := ku s14
  replace s15 := ku s15
  replace s16 := ku s16
  replace s56 := ku s56
  replace s57 := ku s57
  replace hz := zz
  clear kk zz Ybn
  refine vq_call true (.int .i64 (c.pr (x))) (want_k rfl rfl s56) (fun hc v hv => ex_call rfl (by simp only [List.map_toArray, List.map_cons, List.map_nil, (ev s57 rfl), (ev s58 rfl), evc] <;> rfl) rfl) (fun hc v hv => (bel8 hv (primary8 c (x) v))) rfl hz (by decide) (fun Ybp zz kk s59 => ?_)
  replace s1 := ku s1
  replace s4 := ku s4
  replace s9 := ku s9
  replace s10 := ku s10
  replace s11 := ku s11
  replace s12 := ku s12
  replace s13 := ku s13
  replace s14 := ku s14
  replace s15 := ku s15
  replace s16 := ku s16
  replace s56 := ku s56
  replace hz := zz
  clear kk zz s57 s58 Ybo
  refine vq true (c.val) (want_k rfl rfl s56) (fun hc v hv => ex_ld rfl (ev s4 rfl) (CB7.ld (HC.bel hv))) rfl hz (by decide) (fun Ybq zz kk s60 => ?_)
  replace s1 := ku s1
  replace s9 := ku s9
  replace s10 := ku s10
  replace s11 := ku s11
  replace s12 := ku s12
  replace s13 := ku s13
  replace s14 := ku s14
  replace s15 := ku s15
  replace s16 := ku s16
  replace s56 := ku s56
  replace s59 := ku s59
  replace hz := zz
  clear kk zz s4 Ybp
  refine vq true _ (want_k rfl rfl s56) (fun hc v hv => ex_move rfl (ev s1 rfl)) rfl hz (by decide) (fun Ybr zz kk s61 => ?_)
  replace s9 := ku s9
  replace s10 := ku s10
  replace s11 := ku s11
  replace s12 := ku s12
  replace s13 := ku s13
  replace s14 := ku s14
  replace s15 := ku s15
  replace s16 := ku s16
  replace s56 := ku s56
  replace s59 := ku s59
  replace s60 := ku s60
  replace hz := zz
  clear kk zz s1 Ybq
  refine vq_call true (.int .i64 (c.pr (x))) (want_k rfl rfl s56) (fun hc v hv => ex_call rfl (by simp only [List.map_toArray, List.map_cons, List.map_nil, (ev s60 rfl), (ev s61 rfl), evc] <;> rfl) rfl) (fun hc v hv => (bel8 hv (rprimary9 c (x) v))) rfl hz (by decide) (fun Ybs zz kk s62 => ?_)
  replace s9 := ku s9
  replace s10 := ku s10
  replace s11 := ku s11
  replace s12 := ku s12
  replace s13 := ku s13
  replace s14 := ku s14
  replace s15 := ku s15
  replace s16 := ku s16
  replace s56 := ku s56
  replace s59 := ku s59
  replace hz := zz
  clear kk zz s60 s61 Ybr
  refine vq true (.bool true) (want_k rfl rfl s56) (fun hc v hv => ex_bin rfl (ev s59 rfl) (ev s62 rfl) (eqlI9 _ _ _ _ rfl _)) rfl hz (by decide) (fun Ybt zz kk s63 => ?_)
  replace s9 := ku s9
  replace s10 := ku s10
  replace s11 := ku s11
  replace s12 := ku s12
  replace s13 := ku s13
  replace s14 := ku s14
  replace s15 := ku s15
  replace s16 := ku s16
  replace s56 := ku s56
  replace hz := zz
  clear kk zz s59 s62 Ybs
  refine vq true (.bool true) (want_none rfl) (fun hc v hv => ex_and rfl s56 s63 rfl) rfl hz (by decide) (fun Ybu zz kk s64 => ?_)
  replace s9 := ku s9
  replace s10 := ku s10
  replace s11 := ku s11
  replace s12 := ku s12
  replace s13 := ku s13
  replace s14 := ku s14
  replace s15 := ku s15
  replace s16 := ku s16
  replace hz := zz
  clear kk zz s56 s63 Ybt
  refine vq true _ (want_none rfl) (fun hc v hv => ex_move rfl (ev s64 rfl)) rfl hz (by decide) (fun Ybv zz kk s65 => ?_)
  replace s9 := ku s9
  replace s10 := ku s10
  replace s11 := ku s11
  replace s12 := ku s12
  replace s13 := ku s13
  replace s14 := ku s14
  replace s15 := ku s15
  replace s16 := ku s16
  replace hz := zz
  clear kk zz s64 Ybu
  refine vq true _ (want_k rfl rfl s65) (fun hc v hv => ex_move rfl (ev s10 rfl)) rfl hz (by decide) (fun Ybw zz kk s66 => ?_)
  replace s9 := ku s9
  replace s11 := ku s11
  replace s12 := ku s12
  replace s13 := ku s13
  replace s14 := ku s14
  replace s15 := ku s15
  replace s16 := ku s16
  replace s65 := ku s65
  replace hz := zz
  clear kk zz s10 Ybv
  refine vq_call true (.int .i64 (fvE9 c y)) (want_k rfl rfl s65) (fun hc v hv => ex_call rfl (by simp only [List.map_toArray, List.map_cons, List.map_nil, (ev s66 rfl), evc] <;> rfl) rfl) (fun hc v hv => (bel8 hv (num9 ((fvE9 c y)) v))) rfl hz (by decide) (fun Ybx zz kk s67 => ?_)
  replace s9 := ku s9
  replace s11 := ku s11
  replace s12 := ku s12
  replace s13 := ku s13
  replace s14 := ku s14
  replace s15 := ku s15
  replace s16 := ku s16
  replace s65 := ku s65
  replace hz := zz
  clear kk zz s66 Ybw
  refine vq true _ (want_k rfl rfl s65) (fun hc v hv => ex_move rfl (ev s12 rfl)) rfl hz (by decide) (fun Yby zz kk s68 => ?_)
  replace s9 := ku s9
  replace s11 := ku s11
  replace s13 := ku s13
  replace s14 := ku s14
  replace s15 := ku s15
  replace s16 := ku s16
  replace s65 := ku s65
  replace s67 := ku s67
  replace hz := zz
  clear kk zz s12 Ybx
  refine vq true (.bool true) (want_k rfl rfl s65) (fun hc v hv => ex_bin rfl (ev s67 rfl) (ev s68 rfl) (eqlI9 _ _ _ _ rfl _)) rfl hz (by decide) (fun Ybz zz kk s69 => ?_)
  replace s9 := ku s9
  replace s11 := ku s11
  replace s13 := ku s13
  replace s14 := ku s14
  replace s15 := ku s15
  replace s16 := ku s16
  replace s65 := ku s65
  replace hz := zz
  clear kk zz s67 s68 Yby
  refine vq true (.bool true) (want_none rfl) (fun hc v hv => ex_and rfl s65 s69 rfl) rfl hz (by decide) (fun Yb0 zz kk s70 => ?_)
  replace s9 := ku s9
  replace s11 := ku s11
  replace s13 := ku s13
  replace s14 := ku s14
  replace s15 := ku s15
  replace s16 := ku s16
  replace hz := zz
  clear kk zz s65 s69 Ybz
  refine vq true _ (want_none rfl) (fun hc v hv => ex_move rfl (ev s70 rfl)) rfl hz (by decide) (fun Yb1 zz kk s71 => ?_)
  replace s9 := ku s9
  replace s11 := ku s11
  replace s13 := ku s13
  replace s14 := ku s14
  replace s15 := ku s15
  replace s16 := ku s16
  replace hz := zz
  clear kk zz s70 Yb0
  refine vq true (a.val) (want_k rfl rfl s71) (fun hc v hv => ex_ld rfl (ev s9 rfl) (SB7.ld (Ha.bel hv))) rfl hz (by decide) (fun Yb2 zz kk s72 => ?_)
  replace s11 := ku s11
  replace s13 := ku s13
  replace s14 := ku s14
  replace s15 := ku s15
  replace s16 := ku s16
  replace s71 := ku s71
  replace hz := zz
  clear kk zz s9 Yb1
  refine vq true (b.val) (want_k rfl rfl s71) (fun hc v hv => ex_ld rfl (ev s11 rfl) (SB7.ld (Hb.bel hv))) rfl hz (by decide) (fun Yb3 zz kk s73 => ?_)
  replace s13 := ku s13
  replace s14 := ku s14
  replace s15 := ku s15
  replace s16 := ku s16
  replace s71 := ku s71
  replace s72 := ku s72
  replace hz := zz
  clear kk zz s11 Yb2
  refine vq_call true (.bool true) (want_k rfl rfl s71) (fun hc v hv => ex_call rfl (by simp only [List.map_toArray, List.map_cons, List.map_nil, (ev s72 rfl), (ev s73 rfl), evc] <;> rfl) rfl) (fun hc v hv => (bel8 hv (samestate9 a b v (ja.later hv) (jb.later hv) al1))) rfl hz (by decide) (fun Yb4 zz kk s74 => ?_)
  replace s13 := ku s13
  replace s14 := ku s14
  replace s15 := ku s15
  replace s16 := ku s16
  replace s71 := ku s71
  replace hz := zz
  clear kk zz s72 s73 Yb3
  refine vq true (.bool true) (want_none rfl) (fun hc v hv => ex_and rfl s71 s74 rfl) rfl hz (by decide) (fun Yb5 zz kk s75 => ?_)
  replace s13 := ku s13
  replace s14 := ku s14
  replace s15 := ku s15
  replace s16 := ku s16
  replace hz := zz
  clear kk zz s71 s74 Yb4
  refine vq true _ (want_none rfl) (fun hc v hv => ex_move rfl (ev s75 rfl)) rfl hz (by decide) (fun Yb6 zz kk s76 => ?_)
  replace s13 := ku s13
  replace s14 := ku s14
  replace s15 := ku s15
  replace s16 := ku s16
  replace hz := zz
  clear kk zz s75 Yb5
  refine vq true _ (want_k rfl rfl s76) (fun hc v hv => ex_move rfl (ev s14 rfl)) rfl hz (by decide) (fun Yb7 zz kk s77 => ?_)
  replace s13 := ku s13
  replace s15 := ku s15
  replace s16 := ku s16
  replace s76 := ku s76
  replace hz := zz
  clear kk zz s14 Yb6
  refine vq_call true (.int .i64 (rbE9 c y d)) (want_k rfl rfl s76) (fun hc v hv => ex_call rfl (by simp only [List.map_toArray, List.map_cons, List.map_nil, (ev s77 rfl), evc] <;> rfl) rfl) (fun hc v hv => (bel8 hv (num9 ((rbE9 c y d)) v))) rfl hz (by decide) (fun Yb8 zz kk s78 => ?_)
  replace s13 := ku s13
  replace s15 := ku s15
  replace s16 := ku s16
  replace s76 := ku s76
  replace hz := zz
  clear kk zz s77 Yb7
  refine vq true _ (want_k rfl rfl s76) (fun hc v hv => ex_move rfl (ev s16 rfl)) rfl hz (by decide) (fun Yb9 zz kk s79 => ?_)
  replace s13 := ku s13
  replace s15 := ku s15
  replace s76 := ku s76
  replace s78 := ku s78
  replace hz := zz
  clear kk zz s16 Yb8
  refine vq true (.bool true) (want_k rfl rfl s76) (fun hc v hv => ex_bin rfl (ev s78 rfl) (ev s79 rfl) (eqlI9 _ _ _ _ rfl _)) rfl hz (by decide) (fun Yca zz kk s80 => ?_)
  replace s13 := ku s13
  replace s15 := ku s15
  replace s76 := ku s76
  replace hz := zz
  clear kk zz s78 s79 Yb9
  refine vq true (.bool true) (want_none rfl) (fun hc v hv => ex_and rfl s76 s80 rfl) rfl hz (by decide) (fun Ycb zz kk s81 => ?_)
  replace s13 := ku s13
  replace s15 := ku s15
  replace hz := zz
  clear kk zz s76 s80 Yca
  refine vq true _ (want_none rfl) (fun hc v hv => ex_move rfl (ev s81 rfl)) rfl hz (by decide) (fun Ycc zz kk s82 => ?_)
  replace s13 := ku s13
  replace s15 := ku s15
  replace hz := zz
  clear kk zz s81 Ycb
  refine vq true (f.val) (want_k rfl rfl s82) (fun hc v hv => ex_ld rfl (ev s13 rfl) (SB7.ld (Hf.bel hv))) rfl hz (by decide) (fun Ycd zz kk s83 => ?_)
  replace s15 := ku s15
  replace s82 := ku s82
  replace hz := zz
  clear kk zz s13 Ycc
  refine vq true (g.val) (want_k rfl rfl s82) (fun hc v hv => ex_ld rfl (ev s15 rfl) (SB7.ld (Hg.bel hv))) rfl hz (by decide) (fun Yce zz kk s84 => ?_)
  replace s82 := ku s82
  replace s83 := ku s83
  replace hz := zz
  clear kk zz s15 Ycd
  refine vq_call true (.bool true) (want_k rfl rfl s82) (fun hc v hv => ex_call rfl (by simp only [List.map_toArray, List.map_cons, List.map_nil, (ev s83 rfl), (ev s84 rfl), evc] <;> rfl) rfl) (fun hc v hv => (bel8 hv (samestate9 f g v (jf.later hv) (jg.later hv) al2))) rfl hz (by decide) (fun Ycf zz kk s85 => ?_)
  replace s82 := ku s82
  replace hz := zz
  clear kk zz s83 s84 Yce
  refine vq true (.bool true) (want_none rfl) (fun hc v hv => ex_and rfl s82 s85 rfl) rfl hz (by decide) (fun Ycg zz kk s86 => ?_)
  replace hz := zz
  clear kk zz s82 s85 Ycf
  refine vq true _ (want_none rfl) (fun hc v hv => ex_move rfl (ev s86 rfl)) rfl hz (by decide) (fun Ych zz kk s87 => ?_)
  replace hz := zz
  clear kk zz s86 Ycg
  refine vq_call true (.bool true) (want_k rfl rfl s87) (fun hc v hv => ex_call (args := #[]) rfl (by simp) rfl) (fun hc v hv => (bel8 hv (alive9 v (hT9.later hv hT9.lt)))) rfl hz (by decide) (fun Yci zz kk s88 => ?_)
  replace s87 := ku s87
  replace hz := zz
  clear kk zz Ych
  refine vq true (.bool true) (want_none rfl) (fun hc v hv => ex_and rfl s87 s88 rfl) rfl hz (by decide) (fun Ycj zz kk s89 => ?_)
  replace hz := zz
  clear kk zz s87 s88 Yci
  refine vq true _ (want_none rfl) (fun hc v hv => ex_assign rfl (ev s89 rfl)) rfl hz (by decide) (fun Yck zz kk s8 => ?_)
  replace hz := zz
  clear kk zz s89 Ycj
  refine vq_nil (fun x1 hx1 => ?_)
  go_wp2
  refine bodyPost_ret (results_tmp rfl _ _ _) rfl ⟨?_, hB.trans (hx1.mono hB0)⟩
  rw [getD_of s8]
  first | done | rfl
theorem configs_came9 (c : Cg) (x y p q : Int) (W : World) (hT : Tab W) :
    Calls Tryz.prog 3 #[.agg #[.int .i64 c.F, .int .i64 c.R, .int .i64 c.P, .bool c.u], .int .i64 x, .int .i64 y, .agg #[.int .u64 p, .int .u64 q]] W fun e w' => e = .returned (.bool true) ∧ Below W.heap.size W w' :=
  configs9 c x y ⟨p, q⟩ W hT
end Go.Proofs.YtkfkkajeoocbbaaGreatDoor
namespace Go.Proofs.YtkfkkajeoocbbaaGreatDoor
open Go.ChangeShapes Go.WideShapes Go.ChangeAt Go.RowKit
open Classical
theorem intCells : Tryz.prog.cellsOf 3 = 1 := by kernel_rfl
theorem u64Cells8 : Tryz.prog.cellsOf 24 = 1 := by kernel_rfl
theorem drCells8 : Tryz.prog.cellsOf 26 = 2 := by kernel_rfl
theorem open_drc8 {H : Type} {enc : TypeId × Value → H} {W : World} {base : Nat} {sp : Nat → Bool} {held : Bool} {n : Nat} {cs : List Value} {x : DataW H × List MemPlace} (h : DataW.trod enc Tryz.prog W base sp held n 26 cs = some x) :
    ∃ a b : Int, ((Lit.int .u64 a).wf = true ∧ (Lit.int .u64 b).wf = true) ∧ cs = [.int .u64 a, .int .u64 b] := by
  obtain ⟨xs, k, hk, hxy, hlen, hxl, hf⟩ := DataW.trod_struct Tryz.underlying26 h
  rw [drCells8] at hlen
  have hxl : xs.length = 2 := hxl
  match xs, hxl, cs, hlen with
  | [y0, y1], _, [v0, v1], _ =>
    have g0 := hf 0 _ rfl
    have g1 := hf 1 _ rfl
    simp [u64Cells8] at g0 g1
    obtain ⟨K, hK, hx0, hw0⟩ := DataW.trod_int Tryz.underlying24 g0
    obtain ⟨N, hN, hx2, hw2⟩ := DataW.trod_int Tryz.underlying24 g1
    refine ⟨K, N, ⟨hw0, hw2⟩, ?_⟩
    rw [(List.cons_eq_cons.1 hK).1, (List.cons_eq_cons.1 hN).1]
end Go.Proofs.YtkfkkajeoocbbaaGreatDoor
namespace Go.Proofs.YtkfkkajeoocbbaaGreatDoor
open Go.ChangeShapes Go.WideShapes Go.ChangeAt Go.RowKit Go.Maps
open Classical
theorem cfCells : Tryz.prog.cellsOf 23 = 4 := by kernel_rfl
theorem boolCells9 : Tryz.prog.cellsOf 4 = 1 := by kernel_rfl
theorem open_cfg {H : Type} {enc : TypeId × Value → H} {W : World} {base : Nat} {v : Value} {d : DataW H} {p : List MemPlace} (hv : Value.okWide Tryz.prog W .any base 23 v) (h : DataW.Trod enc Tryz.prog W 0 (fun _ => true) true 23 v d p) :
    ∃ x : Cg, v = .agg #[.int .i64 x.F, .int .i64 x.R, .int .i64 x.P, .bool x.u] ∧ True := by
  obtain ⟨cs, rfl, hsz⟩ := okWide_struct Tryz.underlying23 hv
  obtain ⟨fuel, hf⟩ := h
  obtain ⟨xs, k, hk, hxy, hlen, hxl, hf⟩ := DataW.trod_struct Tryz.underlying23 hf
  rw [cfCells] at hlen
  have hxl : xs.length = 4 := hxl
  simp only [Value.cells] at hlen hf
  obtain ⟨l⟩ := cs
  match xs, hxl, l, hlen with
  | [y0, y1, y2, y3], _, [v0, v1, v2, v3], _ =>
    have g0 := hf 0 _ rfl
    have g1 := hf 1 _ rfl
    have g2 := hf 2 _ rfl
    have g3 := hf 3 _ rfl
    simp [intCells, boolCells9] at g0 g1 g2 g3
    obtain ⟨A, hA, _, _⟩ := DataW.trod_int Tryz.underlying3 g0
    obtain ⟨B, hB, _, _⟩ := DataW.trod_int Tryz.underlying3 g1
    obtain ⟨C, hC, _, _⟩ := DataW.trod_int Tryz.underlying3 g2
    obtain ⟨b, hb, _⟩ := DataW.trod_bool Tryz.underlying4 g3
    refine ⟨⟨A, B, C, b⟩, ?_, trivial⟩
    simp at hA hB hC hb
    subst hA hB hC hb
    rfl
end Go.Proofs.YtkfkkajeoocbbaaGreatDoor
namespace Go.Proofs.YtkfkkajeoocbbaaGreatDoor
open Go.RowKit Go.Maps Go.WideShapes Go.ChangeShapes
open Classical
theorem gTab : Tryz.prog.globalNamed "amnesia/message.table" = some 0 := by kernel_rfl
theorem gTabT : (Tryz.prog.globals[0]?).map (·.type) = some 168 := by kernel_rfl
theorem cellsRow : Tryz.prog.cellsOf 167 = 10 := by kernel_rfl
theorem cellsRule : Tryz.prog.cellsOf 166 = 1 := by kernel_rfl
theorem undTab : Tryz.prog.underlying 168 = some (.array 15 167) := by kernel_rfl
theorem undRow : Tryz.prog.underlying 167 = some (.array 10 166) := by kernel_rfl
theorem undRule : Tryz.prog.underlying 166 = some (.int .u8) := by kernel_rfl
theorem tab_of_laid7 {W : World} (h : laidMetH Tryz.prog [("amnesia/message.table", Rows.laid_amnesia_message_table)] W) : Tab W := by
  rw [MakeChecks.laidMetH_plain _ _ _ (by kernel_rfl)] at h
  obtain ⟨ps, ⟨g', t', cs, fuel, p, q, hg', ht', hvar, hd, _, _⟩, _⟩ := h
  obtain rfl := Option.some.inj (gTab.symm.trans hg')
  obtain rfl := Option.some.inj (gTabT.symm.trans ht')
  obtain ⟨xs, m, _, hx, hl, hxl, hall⟩ := DataW.trod_array undTab hd
  have e : (Rows.laid_amnesia_message_table : DataW Unit) = .agg ((List.range 15).map fun k => Lib.tabData .u8 ((List.range 10).map fun j => (tabA k j : Int))) := by kernel_rfl
  have hxs : xs.map (·.1) = (List.range 15).map fun k => (Lib.tabData .u8 ((List.range 10).map fun j => (tabA k j : Int)) : DataW Unit) := by
    have h1 := congrArg Prod.fst hx
    rw [e] at h1
    exact (DataW.agg.inj h1).symm
  have row : ∀ k, k < 15 → (cs.toList.drop (k * 10)).take 10 = ((List.range 10).map fun j => (tabA k j : Int)).map fun z => Value.int .u8 z := by
    intro k hk
    have h1 := hall k hk
    rw [cellsRow] at h1
    obtain ⟨x, hx⟩ : ∃ x, xs[k]? = some x := ⟨_, List.getElem?_eq_getElem (by omega)⟩
    rw [hx] at h1
    have h2 : x.1 = (Lib.tabData .u8 ((List.range 10).map fun j => (tabA k j : Int)) : DataW Unit) := by
      have h3 := congrArg (fun l => l[k]?) hxs
      simp only [List.getElem?_map, hx, Option.map_some, List.getElem?_range hk] at h3
      exact Option.some.inj h3
    obtain ⟨d, pp⟩ := x
    subst h2
    exact Lib.cells_of_tab undRow undRule cellsRule cellsRow h1
  have cell : ∀ k j, k < 15 → j < 10 → W.cell? ⟨0, k * 10 + j, none⟩ = some (.int .u8 (tabA k j : Int)) := by
    intro k j hk hj
    have h1 := World.var?_cell gTab hvar (k * 10 + j)
    rw [h1]
    have h2 := congrArg (fun l => l[j]?) (row k hk)
    simp only [List.getElem?_take_of_lt hj, List.getElem?_drop, List.getElem?_map, List.getElem?_range hj, Option.map_some, Array.getElem?_toList] at h2
    exact h2
  refine ⟨?_, cell⟩
  have h0 := cell 0 0 (by decide) (by decide)
  apply Nat.pos_of_ne_zero
  intro hz
  have : W.heap[0]? = none := Array.getElem?_eq_none (by omega)
  simp [World.cell?, this] at h0
end Go.Proofs.YtkfkkajeoocbbaaGreatDoor
namespace Go.Proofs.YtkfkkajeoocbbaaGreatDoor
open Go.ChangeShapes Go.WideShapes Go.ChangeAt Go.RowKit Go.Maps
open Classical
theorem open_draw {H : Type} {enc : TypeId × Value → H} {W : World} {base : Nat} {v : Value} {d : DataW H} {p : List MemPlace} (hv : Value.okWide Tryz.prog W .any base 26 v) (h : DataW.Trod enc Tryz.prog W 0 (fun _ => true) true 26 v d p) :
    ∃ x y : Int, v = .agg #[.int .u64 x, .int .u64 y] ∧ (Lit.int .u64 x).wf = true ∧ (Lit.int .u64 y).wf = true := by
  obtain ⟨cs, rfl, hsz⟩ := okWide_struct Tryz.underlying26 hv
  obtain ⟨fuel, hf⟩ := h
  obtain ⟨a, b, ⟨wa, wb⟩, e⟩ := open_drc8 hf
  refine ⟨a, b, ?_, wa, wb⟩
  have e : cs.toList = [.int .u64 a, .int .u64 b] := by simp only [Value.cells] at e; exact e
  have : cs = #[.int .u64 a, .int .u64 b] := by rw [← Array.toList_inj]; exact e
  rw [this]
end Go.Proofs.YtkfkkajeoocbbaaGreatDoor
