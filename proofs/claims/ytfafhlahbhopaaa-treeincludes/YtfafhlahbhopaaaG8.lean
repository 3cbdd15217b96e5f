import Derived.Test.YtfafhlahbhopaaaRows
import Derived.Deep.SlicePairs
import Derived.ChangeOld
import Derived.ProofKit
import Derived.OpenShut
import Derived.SizedLaws
import Derived.Test.YtfafhlahbhopaaaG7
set_option maxRecDepth 100000
set_option linter.unusedVariables false
set_option linter.unusedSimpArgs false
namespace Go.Proofs.Ytfafhlahbhopaaa
open Go.ChangeShapes Go.WideShapes Go.ChangeAt Go.RowKit Go.Maps
open Classical
def CameH (W : World) (a : Option Addr) (n c : Nat) : Prop := ∃ P : List Hs, SlY yH W a n c P ∧ n * 32 ≤ 140737488351232
theorem open_hashes {H : Type} {enc : TypeId × Value → H} {W : World} {base : Nat} {v : Value} {d : DataW H} {p : List MemPlace} (hv : Value.okWide Try.prog W .any base 42 v) (h : DataW.Trod enc Try.prog W 0 (fun _ => true) true 42 v d p)
    (hs : ∀ el sp, d = .slice el sp → (el.length + sp.length) * Try.prog.bytesOf 24 ≤ reachBytes) : ∃ a len cap, v = .slice a len cap ∧ CameH W a len cap := by
  haveI : Inhabited Hs := ⟨zH⟩
  obtain ⟨a, n, c, rfl, P, h1, h2, el, sp, e1, _, e3⟩ := open_rowsH20 kH (fun _ => True) hCells20 (fun h => open_hashc20 h) hv h
  refine ⟨a, n, c, rfl, P, h1, ?_⟩
  rcases e3 with e3 | e3
  · omega
  · have := hs el sp e3
    rw [hBytes20, e1, Nat.add_mul] at this
    simp only [reachBytes] at this
    omega
def Hb.h20 {o : List Int} (h : Hb o) : Hs := ⟨o, h.len, h.in_⟩
end Go.Proofs.Ytfafhlahbhopaaa
namespace Go.Proofs.Ytfafhlahbhopaaa
open Go.RowKit Go.Maps
open Classical
theorem own20 {w : World} {a : Option Addr} {n c : Nat} {L : List Hs} {x : Hs} (h : SlY yH w a (n + 1) c (L ++ [x])) (hl : L.length = n) : SlY yH w a n c L := by
  have := h.take n (by omega)
  rwa [List.take_left' hl] at this
end Go.Proofs.Ytfafhlahbhopaaa
namespace Go.Proofs.Ytfafhlahbhopaaa
open Go.RowKit Go.Maps
open Classical
theorem conv20 (s : ByteArray) (hs : s.size ≤ 140737488352232) (X : World) : ∃ c w', (Go.convert 9 71 (.string s)).run Try.prog X = .ok (.slice (some ⟨X.heap.size, 0, none⟩) s.size c) w' ∧ Below X.heap.size X w' ∧ X.heap.size < w'.heap.size ∧ SlY yB9 w' (some ⟨X.heap.size, 0, none⟩) s.size c (Wi.sb s) := by
  have hr := Lib.run_convert_string_bytes (P := Try.prog) X 9 71 5 s Try.underlying9 Try.underlying71 Try.underlying5
  have hcap : s.size ≤ grownCap X s.size 0 5 := grownCap_ge X s.size 0 5
  refine ⟨_, _, hr, ⟨rfl, rfl, rfl, by rw [Lib.bytesWorld_size]; omega, fun k hk => Lib.bytesWorld_at_old X _ s k hk⟩, by rw [Lib.bytesWorld_size]; omega, ⟨sb_len s, hcap, grownCap_le_maxLen X s.size 0 5 (by unfold maxLen; omega), (fun h => by cases h), fun x hx => .inr ⟨X.heap.size, 0, (Option.some.inj hx).symm, by rw [Lib.bytesWorld_size]; omega, fun i v hv j u hu => ?_⟩⟩⟩
  have hi : i < s.size := by
    have := (List.getElem?_eq_some_iff.1 hv).1
    rwa [sb_len] at this
  obtain rfl : j = 0 := by
    have := (List.getElem?_eq_some_iff.1 hu).1
    simp [yB9] at this
    omega
  obtain rfl : Value.int .u8 v = u := by simpa [yB9] using hu
  have hz : s.data.toList.length = s.size := by rw [Array.length_toList]; rfl
  have hc := Lib.bytesWorld_cell X 5 s i (by first | exact hi | (rw [hz]; exact hi))
  show (Lib.bytesWorld X 5 s).cell? ⟨X.heap.size, 0 + i * 1 + 0, none⟩ = some (.int .u8 v)
  rw [show 0 + i * 1 + 0 = i by omega, hc]
  unfold Wi.sb at hv
  rw [List.getElem?_map] at hv
  have hi2 : i < s.data.toList.length := by rw [hz]; exact hi
  rw [List.getElem?_eq_getElem hi2] at hv
  have := Option.some.inj hv
  rw [← this]
  rw [List.getD_eq_getElem?_getD, List.getElem?_eq_getElem hi2]
  rfl
theorem cvIn20 (k : Nat) (hk : k < 9223372036854775808) (w : World) : (Go.convert 3 118 (.int .i64 (k : Int))).run Try.prog w = .ok (.int .u64 (k : Int)) w := by
  have := cvIq20 (k : Int) w
  rwa [show u6 (k : Int) = k by unfold u6; rw [IntKind.wrap_u64]; omega] at this
set_option maxHeartbeats 2000000 in
theorem rbytes20 (x : En) (w : World) (hv : x.o.v.size ≤ 140737488352232) :
    Calls Try.prog 75 #[x.val20] w fun e w' => ∃ v, e = .returned v ∧ OwnY yB9 w.heap.size w' v (eB x) ∧ Below w.heap.size w w' := by
  go_enter Try.func75, Try.ntmps75
  go_upto_region 0 with fail
  refine wp_region_lit ?_
  refine vl_gen (fun T => Rp T 44 [(0, gw true (x.val20))]) ((Rp.nil rfl).cons rfl) (fun Z0 q0 => ?_)
  obtain ⟨w1, hw1⟩ : ∃ y, y = w.alloc (.cells (x.cs).toArray 28) := ⟨_, rfl⟩
  refine vw (.pointer (some ⟨w.heap.size, 0, none⟩)) w1 (want_none rfl) (ex_box18 rfl (q0.e (j := 0) rfl) (by rw [hw1]; exact bxE20 _ _)) rfl q0.z (by decide) (q0.k fun _ q1 => ?_);clear q0
  have Bw1 : BB w1 w.heap.size 28 (x.cs) := by rw [hw1]; exact BB.new _ _ _
  have bw1 : Below w.heap.size w w1 := by rw [hw1]; exact (Below.refl _ _).alloc (Nat.le_refl _) _
  have zw1 : w1.heap.size = w.heap.size + 1 := by rw [hw1]; exact World.size_alloc _ _
  clear hw1
  refine q1.t (.slice none 0 0) (ex_assign rfl rfl) fun _ q2 => ?_;clear q1
  refine wpList_nil ?_
  go_upto_region 1 with fail
  refine wp_region_lit ?_
  refine q2.t (.slice none 0 0) (ex_assign rfl rfl) fun _ q3 => ?_;clear q2
  have o1 : OwnY yB9 w1.heap.size w1 (.slice none 0 0) [] := OwnY.nil _ _ _
  have e1 : Below w1.heap.size w1 w1 := Below.refl _ _
  refine wpList_nil ?_
  go_upto_region 2 with fail
  refine wp_region_lit ?_
  refine q3.t (.slice none 0 0) (ex_move rfl (q3.e (j := 3) rfl)) fun _ q4 => ?_;clear q3
  refine q4.t (.pointer (some ⟨w.heap.size, 0, none⟩)) (ex_fa rfl (q4.e (j := 1) rfl) (faE20 _ _ _ (by simp) _)) fun _ q5 => ?_;clear q4
  have Q0 := Bw1.later e1
  refine q5.t (.int .i64 (eN x 0)) (ex_ld rfl (q5.e (j := 5) rfl) (ldI18 (Q0.cell 0))) fun _ q6 => ?_;clear q5
  refine q6.t (.int .u64 ((u6 (eN x 0) : Nat) : Int)) (ex_cv19 rfl (q6.e (j := 6) rfl) (cvIq20 _ _)) fun _ q7 => ?_;clear q6
  refine vcallP (want_none rfl) (ex_call rfl (by simp only [List.map_toArray, List.map_cons, List.map_nil, (q7.e (j := 7) rfl), evc] <;> rfl) rfl) (Wi.refform_any (u6 (eN x 0)) (u6_lt _) w1) rfl q7.z (by decide) ?_
  rintro e y0 ⟨r0, rfl, f0, _, g0⟩
  refine ⟨_, rfl, q7.k fun _ q8 => ?_⟩;clear q7
  have zy0 := g0.size
  have hy0 := own_y20 f0
  obtain ⟨ra0, rc0, hr0, sl0, _⟩ := hy0.sl kB9
  subst hr0
  have og0 := o1.grow g0
  obtain ⟨v2, w2, ha0, o2, gg0, _⟩ := run_appY kB9 y0 71 w1.heap.size [] (.slice none 0 0) _ _ _ (M.form (u6 (eN x 0))) sl0 og0 (by have := e1.size; omega) (by unfold maxLen; have l0 := form_le _ (u6_lt (eN x 0)); simp only [List.length_append, List.length_nil]; omega) (by show ([].length + (M.form (u6 (eN x 0))).length) * 1 ≤ _; have l0 := form_le _ (u6_lt (eN x 0)); simp only [List.length_append, List.length_nil]; omega)
  have e2 : Below w1.heap.size w1 w2 := og0.grown (e1.trans (g0.mono e1.size)) gg0 (by have := e1.size; omega)
  refine vw (v2) w2 (want_none rfl) (ex_app18 rfl (q8.e (j := 4) rfl) (q8.e (j := 8) rfl) ha0) rfl q8.z (by decide) (q8.k fun _ q9 => ?_);clear q8
  refine q9.t (v2) (ex_assign rfl (q9.e (j := 9) rfl)) fun _ q10 => ?_;clear q9
  refine wpList_nil ?_
  go_upto_region 3 with fail
  refine wp_region_lit ?_
  refine q10.t (v2) (ex_move rfl (q10.e (j := 3) rfl)) fun _ q11 => ?_;clear q10
  refine q11.t (.pointer (some ⟨w.heap.size, 1, none⟩)) (ex_fa rfl (q11.e (j := 1) rfl) (faE20 _ _ _ (by simp) _)) fun _ q12 => ?_;clear q11
  have Q1 := Bw1.later e2
  refine q12.t (.int .i64 (eN x 1)) (ex_ld rfl (q12.e (j := 11) rfl) (ldI18 (Q1.cell 1))) fun _ q13 => ?_;clear q12
  refine q13.t (.int .u64 ((u6 (eN x 1) : Nat) : Int)) (ex_cv19 rfl (q13.e (j := 12) rfl) (cvIq20 _ _)) fun _ q14 => ?_;clear q13
  refine vcallP (want_none rfl) (ex_call rfl (by simp only [List.map_toArray, List.map_cons, List.map_nil, (q14.e (j := 13) rfl), evc] <;> rfl) rfl) (Wi.refform_any (u6 (eN x 1)) (u6_lt _) w2) rfl q14.z (by decide) ?_
  rintro e y1 ⟨r1, rfl, f1, _, g1⟩
  refine ⟨_, rfl, q14.k fun _ q15 => ?_⟩;clear q14
  have zy1 := g1.size
  have hy1 := own_y20 f1
  obtain ⟨ra1, rc1, hr1, sl1, _⟩ := hy1.sl kB9
  subst hr1
  have og1 := o2.grow g1
  obtain ⟨v3, w3, ha1, o3, gg1, _⟩ := run_appY kB9 y1 71 w1.heap.size ([] ++ M.form (u6 (eN x 0))) (v2) _ _ _ (M.form (u6 (eN x 1))) sl1 og1 (by have := e2.size; omega) (by unfold maxLen; have l0 := form_le _ (u6_lt (eN x 0)); have l1 := form_le _ (u6_lt (eN x 1)); simp only [List.length_append, List.length_nil]; omega) (by show (([] ++ M.form (u6 (eN x 0))).length + (M.form (u6 (eN x 1))).length) * 1 ≤ _; have l0 := form_le _ (u6_lt (eN x 0)); have l1 := form_le _ (u6_lt (eN x 1)); simp only [List.length_append, List.length_nil]; omega)
  have e3 : Below w1.heap.size w1 w3 := og1.grown (e2.trans (g1.mono e2.size)) gg1 (by have := e2.size; omega)
  refine vw (v3) w3 (want_none rfl) (ex_app18 rfl (q15.e (j := 10) rfl) (q15.e (j := 14) rfl) ha1) rfl q15.z (by decide) (q15.k fun _ q16 => ?_);clear q15
  refine q16.t (v3) (ex_assign rfl (q16.e (j := 15) rfl)) fun _ q17 => ?_;clear q16
  refine wpList_nil ?_
  go_upto_region 4 with fail
  refine wp_region_lit ?_
  refine q17.t (v3) (ex_move rfl (q17.e (j := 3) rfl)) fun _ q18 => ?_;clear q17
  refine q18.t (.pointer (some ⟨w.heap.size, 2, none⟩)) (ex_fa rfl (q18.e (j := 1) rfl) (faE20 _ _ _ (by simp) _)) fun _ q19 => ?_;clear q18
  refine q19.t (.pointer (some ⟨w.heap.size, 2, none⟩)) (ex_fa rfl (q19.e (j := 17) rfl) (faO20 _ _ _ (by simp) _)) fun _ q20 => ?_;clear q19
  have Q2 := Bw1.later e3
  refine q20.t (.int .i64 (eN x 2)) (ex_ld rfl (q20.e (j := 18) rfl) (ldI18 (Q2.cell 2))) fun _ q21 => ?_;clear q20
  refine q21.t (.int .u64 ((u6 (eN x 2) : Nat) : Int)) (ex_cv19 rfl (q21.e (j := 19) rfl) (cvIq20 _ _)) fun _ q22 => ?_;clear q21
  refine vcallP (want_none rfl) (ex_call rfl (by simp only [List.map_toArray, List.map_cons, List.map_nil, (q22.e (j := 20) rfl), evc] <;> rfl) rfl) (Wi.refform_any (u6 (eN x 2)) (u6_lt _) w3) rfl q22.z (by decide) ?_
  rintro e y2 ⟨r2, rfl, f2, _, g2⟩
  refine ⟨_, rfl, q22.k fun _ q23 => ?_⟩;clear q22
  have zy2 := g2.size
  have hy2 := own_y20 f2
  obtain ⟨ra2, rc2, hr2, sl2, _⟩ := hy2.sl kB9
  subst hr2
  have og2 := o3.grow g2
  obtain ⟨v4, w4, ha2, o4, gg2, _⟩ := run_appY kB9 y2 71 w1.heap.size (([] ++ M.form (u6 (eN x 0))) ++ M.form (u6 (eN x 1))) (v3) _ _ _ (M.form (u6 (eN x 2))) sl2 og2 (by have := e3.size; omega) (by unfold maxLen; have l0 := form_le _ (u6_lt (eN x 0)); have l1 := form_le _ (u6_lt (eN x 1)); have l2 := form_le _ (u6_lt (eN x 2)); simp only [List.length_append, List.length_nil]; omega) (by show ((([] ++ M.form (u6 (eN x 0))) ++ M.form (u6 (eN x 1))).length + (M.form (u6 (eN x 2))).length) * 1 ≤ _; have l0 := form_le _ (u6_lt (eN x 0)); have l1 := form_le _ (u6_lt (eN x 1)); have l2 := form_le _ (u6_lt (eN x 2)); simp only [List.length_append, List.length_nil]; omega)
  have e4 : Below w1.heap.size w1 w4 := og2.grown (e3.trans (g2.mono e3.size)) gg2 (by have := e3.size; omega)
  refine vw (v4) w4 (want_none rfl) (ex_app18 rfl (q23.e (j := 16) rfl) (q23.e (j := 21) rfl) ha2) rfl q23.z (by decide) (q23.k fun _ q24 => ?_);clear q23
  refine q24.t (v4) (ex_assign rfl (q24.e (j := 22) rfl)) fun _ q25 => ?_;clear q24
  refine wpList_nil ?_
  go_upto_region 5 with fail
  refine wp_region_lit ?_
  refine q25.t (v4) (ex_move rfl (q25.e (j := 3) rfl)) fun _ q26 => ?_;clear q25
  refine q26.t (.pointer (some ⟨w.heap.size, 2, none⟩)) (ex_fa rfl (q26.e (j := 1) rfl) (faE20 _ _ _ (by simp) _)) fun _ q27 => ?_;clear q26
  refine q27.t (.pointer (some ⟨w.heap.size, 3, none⟩)) (ex_fa rfl (q27.e (j := 24) rfl) (faO20 _ _ _ (by simp) _)) fun _ q28 => ?_;clear q27
  have Q3 := Bw1.later e4
  refine q28.t (.int .i64 (eN x 3)) (ex_ld rfl (q28.e (j := 25) rfl) (ldI18 (Q3.cell 3))) fun _ q29 => ?_;clear q28
  refine q29.t (.int .u64 ((u6 (eN x 3) : Nat) : Int)) (ex_cv19 rfl (q29.e (j := 26) rfl) (cvIq20 _ _)) fun _ q30 => ?_;clear q29
  refine vcallP (want_none rfl) (ex_call rfl (by simp only [List.map_toArray, List.map_cons, List.map_nil, (q30.e (j := 27) rfl), evc] <;> rfl) rfl) (Wi.refform_any (u6 (eN x 3)) (u6_lt _) w4) rfl q30.z (by decide) ?_
  rintro e y3 ⟨r3, rfl, f3, _, g3⟩
  refine ⟨_, rfl, q30.k fun _ q31 => ?_⟩;clear q30
  have zy3 := g3.size
  have hy3 := own_y20 f3
  obtain ⟨ra3, rc3, hr3, sl3, _⟩ := hy3.sl kB9
  subst hr3
  have og3 := o4.grow g3
  obtain ⟨v5, w5, ha3, o5, gg3, _⟩ := run_appY kB9 y3 71 w1.heap.size ((([] ++ M.form (u6 (eN x 0))) ++ M.form (u6 (eN x 1))) ++ M.form (u6 (eN x 2))) (v4) _ _ _ (M.form (u6 (eN x 3))) sl3 og3 (by have := e4.size; omega) (by unfold maxLen; have l0 := form_le _ (u6_lt (eN x 0)); have l1 := form_le _ (u6_lt (eN x 1)); have l2 := form_le _ (u6_lt (eN x 2)); have l3 := form_le _ (u6_lt (eN x 3)); simp only [List.length_append, List.length_nil]; omega) (by show (((([] ++ M.form (u6 (eN x 0))) ++ M.form (u6 (eN x 1))) ++ M.form (u6 (eN x 2))).length + (M.form (u6 (eN x 3))).length) * 1 ≤ _; have l0 := form_le _ (u6_lt (eN x 0)); have l1 := form_le _ (u6_lt (eN x 1)); have l2 := form_le _ (u6_lt (eN x 2)); have l3 := form_le _ (u6_lt (eN x 3)); simp only [List.length_append, List.length_nil]; omega)
  have e5 : Below w1.heap.size w1 w5 := og3.grown (e4.trans (g3.mono e4.size)) gg3 (by have := e4.size; omega)
  refine vw (v5) w5 (want_none rfl) (ex_app18 rfl (q31.e (j := 23) rfl) (q31.e (j := 28) rfl) ha3) rfl q31.z (by decide) (q31.k fun _ q32 => ?_);clear q31
  refine q32.t (v5) (ex_assign rfl (q32.e (j := 29) rfl)) fun _ q33 => ?_;clear q32
  refine wpList_nil ?_
  go_upto_region 6 with fail
  refine wp_region_lit ?_
  refine q33.t (v5) (ex_move rfl (q33.e (j := 3) rfl)) fun _ q34 => ?_;clear q33
  refine q34.t (.pointer (some ⟨w.heap.size, 2, none⟩)) (ex_fa rfl (q34.e (j := 1) rfl) (faE20 _ _ _ (by simp) _)) fun _ q35 => ?_;clear q34
  refine q35.t (.pointer (some ⟨w.heap.size, 4, none⟩)) (ex_fa rfl (q35.e (j := 31) rfl) (faO20 _ _ _ (by simp) _)) fun _ q36 => ?_;clear q35
  have Q4 := Bw1.later e5
  refine q36.t (.string x.o.v) (ex_ld rfl (q36.e (j := 32) rfl) (ldS20 (Q4.cell 4))) fun _ q37 => ?_;clear q36
  refine q37.t (.int .i64 ((x.o.v.size : Nat) : Int)) (ex_lenS20 rfl rfl (q37.e (j := 33) rfl)) fun _ q38 => ?_;clear q37
  refine q38.t (.int .u64 ((x.o.v.size : Nat) : Int)) (ex_cv19 rfl (q38.e (j := 34) rfl) (cvIn20 _ (by omega) _)) fun _ q39 => ?_;clear q38
  refine vcallP (want_none rfl) (ex_call rfl (by simp only [List.map_toArray, List.map_cons, List.map_nil, (q39.e (j := 35) rfl), evc] <;> rfl) rfl) (Wi.refform_any (x.o.v.size) (by omega) w5) rfl q39.z (by decide) ?_
  rintro e y4 ⟨r4, rfl, f4, _, g4⟩
  refine ⟨_, rfl, q39.k fun _ q40 => ?_⟩;clear q39
  have zy4 := g4.size
  have hy4 := own_y20 f4
  obtain ⟨ra4, rc4, hr4, sl4, _⟩ := hy4.sl kB9
  subst hr4
  have og4 := o5.grow g4
  obtain ⟨v6, w6, ha4, o6, gg4, _⟩ := run_appY kB9 y4 71 w1.heap.size (((([] ++ M.form (u6 (eN x 0))) ++ M.form (u6 (eN x 1))) ++ M.form (u6 (eN x 2))) ++ M.form (u6 (eN x 3))) (v5) _ _ _ (M.form x.o.v.size) sl4 og4 (by have := e5.size; omega) (by unfold maxLen; have l0 := form_le _ (u6_lt (eN x 0)); have l1 := form_le _ (u6_lt (eN x 1)); have l2 := form_le _ (u6_lt (eN x 2)); have l3 := form_le _ (u6_lt (eN x 3)); have l4 := form_le x.o.v.size (by omega); simp only [List.length_append, List.length_nil]; omega) (by show ((((([] ++ M.form (u6 (eN x 0))) ++ M.form (u6 (eN x 1))) ++ M.form (u6 (eN x 2))) ++ M.form (u6 (eN x 3))).length + (M.form x.o.v.size).length) * 1 ≤ _; have l0 := form_le _ (u6_lt (eN x 0)); have l1 := form_le _ (u6_lt (eN x 1)); have l2 := form_le _ (u6_lt (eN x 2)); have l3 := form_le _ (u6_lt (eN x 3)); have l4 := form_le x.o.v.size (by omega); simp only [List.length_append, List.length_nil]; omega)
  have e6 : Below w1.heap.size w1 w6 := og4.grown (e5.trans (g4.mono e5.size)) gg4 (by have := e5.size; omega)
  refine vw (v6) w6 (want_none rfl) (ex_app18 rfl (q40.e (j := 30) rfl) (q40.e (j := 36) rfl) ha4) rfl q40.z (by decide) (q40.k fun _ q41 => ?_);clear q40
  refine q41.t (v6) (ex_assign rfl (q41.e (j := 37) rfl)) fun _ q42 => ?_;clear q41
  refine wpList_nil ?_
  go_upto_region 7 with fail
  refine wp_region_lit ?_
  refine q42.t (v6) (ex_move rfl (q42.e (j := 3) rfl)) fun _ q43 => ?_;clear q42
  refine q43.t (.pointer (some ⟨w.heap.size, 2, none⟩)) (ex_fa rfl (q43.e (j := 1) rfl) (faE20 _ _ _ (by simp) _)) fun _ q44 => ?_;clear q43
  refine q44.t (.pointer (some ⟨w.heap.size, 4, none⟩)) (ex_fa rfl (q44.e (j := 39) rfl) (faO20 _ _ _ (by simp) _)) fun _ q45 => ?_;clear q44
  have Q5 := Bw1.later e6
  refine q45.t (.string x.o.v) (ex_ld rfl (q45.e (j := 40) rfl) (ldS20 (Q5.cell 4))) fun _ q46 => ?_;clear q45
  obtain ⟨cc, y5, hcv, g5, l5, sl5⟩ := conv20 x.o.v hv w6
  refine vw (.slice (some ⟨w6.heap.size, 0, none⟩) x.o.v.size cc) y5 (want_none rfl) (ex_cv19 rfl (q46.e (j := 41) rfl) hcv) rfl q46.z (by decide) (q46.k fun _ q47 => ?_);clear q46
  have og5 := o6.grow g5
  obtain ⟨v7, w7, ha5, o7, gg5, _⟩ := run_appY kB9 y5 71 w1.heap.size ((((([] ++ M.form (u6 (eN x 0))) ++ M.form (u6 (eN x 1))) ++ M.form (u6 (eN x 2))) ++ M.form (u6 (eN x 3))) ++ M.form x.o.v.size) v6 _ _ _ (Wi.sb x.o.v) sl5 og5 (by have := e6.size; omega) (by unfold maxLen; have l0 := form_le _ (u6_lt (eN x 0)); have l1 := form_le _ (u6_lt (eN x 1)); have l2 := form_le _ (u6_lt (eN x 2)); have l3 := form_le _ (u6_lt (eN x 3)); have l4 := form_le x.o.v.size (by omega); simp only [List.length_append, List.length_nil]; omega) (by show (((((([] ++ M.form (u6 (eN x 0))) ++ M.form (u6 (eN x 1))) ++ M.form (u6 (eN x 2))) ++ M.form (u6 (eN x 3))) ++ M.form x.o.v.size).length + x.o.v.size) * 1 ≤ _; have l0 := form_le _ (u6_lt (eN x 0)); have l1 := form_le _ (u6_lt (eN x 1)); have l2 := form_le _ (u6_lt (eN x 2)); have l3 := form_le _ (u6_lt (eN x 3)); have l4 := form_le x.o.v.size (by omega); simp only [List.length_append, List.length_nil]; omega)
  have e7 : Below w1.heap.size w1 w7 := og5.grown (e6.trans (g5.mono e6.size)) gg5 (by have := e6.size; omega)
  refine vw (v7) w7 (want_none rfl) (ex_app18 rfl (q47.e (j := 38) rfl) (q47.e (j := 42) rfl) ha5) rfl q47.z (by decide) (q47.k fun _ q48 => ?_);clear q47
  refine q48.t (v7) (ex_assign rfl (q48.e (j := 43) rfl)) fun _ q49 => ?_;clear q48
  refine wpList_nil ?_
  go_wp2
  refine bodyPost_ret (results_tmp rfl _ _ _) rfl ?_
  rw [getD_of (q49.a 2 rfl)]
  exact ⟨v7, rfl, (by have := o7.low (B' := w.heap.size) (by omega); simpa only [eB, fN, List.nil_append, List.append_assoc] using this), bw1.trans (e7.mono (by omega))⟩
set_option maxHeartbeats 2000000 in
theorem rleafText20 (x : En) (w : World) (hv : x.o.v.size ≤ 140737488351232) :
    Calls Try.prog 44 #[x.val20] w fun e w' => ∃ v, e = .returned v ∧ OwnY yB9 w.heap.size w' v ([0] ++ eB x) ∧ Below w.heap.size w w' := by
  go_enter Try.func44, Try.ntmps44
  go_upto_region 0 with fail
  refine wp_region_lit ?_
  refine vl_gen (fun T => Rp T 7 [(0, gw true (x.val20))]) ((Rp.nil rfl).cons rfl) (fun Z0 q0 => ?_)
  obtain ⟨w1, hw1⟩ : ∃ y, y = w.alloc (.cells (x.cs).toArray 28) := ⟨_, rfl⟩
  refine vw (.pointer (some ⟨w.heap.size, 0, none⟩)) w1 (want_none rfl) (ex_box18 rfl (q0.e (j := 0) rfl) (by rw [hw1]; exact bxE20 _ _)) rfl q0.z (by decide) (q0.k fun _ q1 => ?_);clear q0
  have Bw1 : BB w1 w.heap.size 28 (x.cs) := by rw [hw1]; exact BB.new _ _ _
  have bw1 : Below w.heap.size w w1 := by rw [hw1]; exact (Below.refl _ _).alloc (Nat.le_refl _) _
  have zw1 : w1.heap.size = w.heap.size + 1 := by rw [hw1]; exact World.size_alloc _ _
  clear hw1
  refine q1.t (.slice none 0 0) (ex_assign rfl rfl) fun _ q2 => ?_;clear q1
  refine wpList_nil ?_
  go_upto_region 1 with fail
  refine wp_region_lit ?_
  obtain ⟨w2, hw2⟩ : ∃ y, y = w1.alloc (.cells (([0] : List Int).map bV).toArray 5) := ⟨_, rfl⟩
  refine vw (.slice (some ⟨w1.heap.size, 0, none⟩) 1 1) w2 (want_none rfl) (ex_bs18 rfl rfl (by rw [hw2]; exact bs1B 0 _)) rfl q2.z (by decide) (q2.k fun _ q3 => ?_);clear q2
  have o2 : OwnY yB9 w1.heap.size w2 (.slice (some ⟨w1.heap.size, 0, none⟩) 1 1) [0] := by rw [hw2]; exact own1B20 w1 0
  have b2 : Below w1.heap.size w1 w2 := by rw [hw2]; exact (Below.refl _ _).alloc (Nat.le_refl _) _
  have z2 := b2.size
  clear hw2
  refine q3.t (x.val20) (ex_ld rfl (q3.e (j := 1) rfl) (Bw1.later b2).ldE20) fun _ q4 => ?_;clear q3
  refine vcallP (want_none rfl) (ex_call rfl (by simp only [List.map_toArray, List.map_cons, List.map_nil, (q4.e (j := 4) rfl), evc] <;> rfl) rfl) (rbytes20 x w2 (by omega)) rfl q4.z (by decide) ?_
  rintro e w3 ⟨v3, rfl, o3, b3⟩
  refine ⟨_, rfl, q4.k fun _ q5 => ?_⟩;clear q4
  have z3 := b3.size
  obtain ⟨a3, c3, hv3, s3, _⟩ := o3.sl kB9
  subst hv3
  have og := o2.grow b3
  obtain ⟨v4, w4, ha4, o4, g4, _⟩ := run_appY kB9 w3 71 w1.heap.size [0] (.slice (some ⟨w1.heap.size, 0, none⟩) 1 1) _ _ _ (eB x) s3 og (by omega) (by unfold maxLen; have := eB_le x (by omega); simp; omega) (by show (([0] : List Int).length + (eB x).length) * 1 ≤ _; have := eB_le x (by omega); simp; omega)
  have d4 : Below w1.heap.size w1 w4 := og.grown (b2.trans (b3.mono (by omega))) g4 (by omega)
  refine vw (v4) w4 (want_none rfl) (ex_app18 rfl (q5.e (j := 3) rfl) (q5.e (j := 5) rfl) ha4) rfl q5.z (by decide) (q5.k fun _ q6 => ?_);clear q5
  refine q6.t (v4) (ex_assign rfl (q6.e (j := 6) rfl)) fun _ q7 => ?_;clear q6
  refine wpList_nil ?_
  go_wp2
  refine bodyPost_ret (results_tmp rfl _ _ _) rfl ?_
  rw [getD_of (q7.a 2 rfl)]
  exact ⟨_, rfl, o4.low (by omega), bw1.trans (d4.mono (by omega))⟩
theorem leaf_by20 (x : En) (h : x.o.v.size < 2 ^ 64) : ∀ z ∈ [0] ++ eB x, (0 : Int) ≤ z ∧ z < 256 := fun z hz => by
  rcases List.mem_append.1 hz with h1 | h1
  · rw [List.mem_singleton.1 h1]; decide
  · exact eB_by x h z h1
set_option maxHeartbeats 2000000 in
theorem rleaf20 (x : En) (w : World) (hv : x.o.v.size ≤ 140737488351232) :
    Calls Try.prog 16 #[x.val20] w fun e w' => e = .returned (lf x).val ∧ Below w.heap.size w w' := by
  go_enter Try.func16, Try.ntmps16
  go_upto_region 0 with fail
  refine wp_region_lit ?_
  refine vl_gen (fun T => Rp T 6 [(0, gw true (x.val20))]) ((Rp.nil rfl).cons rfl) (fun Z0 q0 => ?_)
  obtain ⟨w1, hw1⟩ : ∃ y, y = w.alloc (.cells (x.cs).toArray 28) := ⟨_, rfl⟩
  refine vw (.pointer (some ⟨w.heap.size, 0, none⟩)) w1 (want_none rfl) (ex_box18 rfl (q0.e (j := 0) rfl) (by rw [hw1]; exact bxE20 _ _)) rfl q0.z (by decide) (q0.k fun _ q1 => ?_);clear q0
  have Bw1 : BB w1 w.heap.size 28 (x.cs) := by rw [hw1]; exact BB.new _ _ _
  have bw1 : Below w.heap.size w w1 := by rw [hw1]; exact (Below.refl _ _).alloc (Nat.le_refl _) _
  have zw1 : w1.heap.size = w.heap.size + 1 := by rw [hw1]; exact World.size_alloc _ _
  clear hw1
  obtain ⟨w2, hw2⟩ : ∃ y, y = w1.alloc (.cells (zH.cs).toArray 24) := ⟨_, rfl⟩
  refine vw (.pointer (some ⟨w1.heap.size, 0, none⟩)) w2 (want_none rfl) (ex_al rfl (by rw [hw2]; exact alH _)) rfl q1.z (by decide) (q1.k fun _ q2 => ?_);clear q1
  have Bw2 : BB w2 w1.heap.size 24 (zH.cs) := by rw [hw2]; exact BB.new _ _ _
  have bw2 : Below w1.heap.size w1 w2 := by rw [hw2]; exact (Below.refl _ _).alloc (Nat.le_refl _) _
  have zw2 : w2.heap.size = w1.heap.size + 1 := by rw [hw2]; exact World.size_alloc _ _
  clear hw2
  refine wpList_nil ?_
  go_upto_region 1 with fail
  refine wp_region_lit ?_
  refine q2.t (x.val20) (ex_ld rfl (q2.e (j := 1) rfl) (Bw1.later bw2).ldE20) fun _ q3 => ?_;clear q2
  refine vcallP (want_none rfl) (ex_call rfl (by simp only [List.map_toArray, List.map_cons, List.map_nil, (q3.e (j := 3) rfl), evc] <;> rfl) rfl) (rleafText20 x w2 hv) rfl q3.z (by decide) ?_
  rintro e w3 ⟨v3, rfl, o3, b3⟩
  refine ⟨_, rfl, q3.k fun _ q4 => ?_⟩;clear q3
  have z3 := b3.size
  obtain ⟨a3, c3, hv3, s3, _⟩ := o3.sl kB9
  subst hv3
  refine vcallP (want_none rfl) (ex_call rfl (by simp only [List.map_toArray, List.map_cons, List.map_nil, (q4.e (j := 4) rfl), evc] <;> rfl) rfl) (rsum19 _ _ _ w3 s3 (by have := eB_le x (by omega); simp; omega) (leaf_by20 x (by omega))) rfl q4.z (by decide) ?_
  rintro e w4 ⟨rfl, b4⟩
  refine ⟨_, rfl, q4.k fun _ q5 => ?_⟩;clear q4
  have z4 := b4.size
  have Bh4 := (Bw2.later b3).later b4
  have e9 : Value.agg ((sumF ([0] ++ eB x)).map bV).toArray = (lf x).val := rfl
  rw [e9] at q5
  obtain ⟨w5, hw5⟩ : ∃ y, y = w4.setCells w1.heap.size 0 (lf x).cs := ⟨_, rfl⟩
  refine vs w5 (want_none rfl) (ex_st rfl (q5.e (j := 2) rfl) (q5.e (j := 5) rfl) (by rw [hw5]; exact Bh4.stH rfl _)) rfl ?_
  have Bw5 : BB w5 w1.heap.size 24 (lf x).cs := by rw [hw5]; exact Bh4.putH rfl _
  have uw5 : Upd (fun k => k = w1.heap.size) w4 w5 := by rw [hw5]; exact upd18 _ _ _ _
  clear hw5
  refine wpList_nil ?_
  go_wp2
  exact Bw5.res rfl (q5.a 2 rfl) Try.underlying24 rfl (by rw [Hs.len]; exact i32h) ⟨rfl, (((bw1.trans (bw2.mono (by omega))).trans (b3.mono (by omega))).trans (b4.mono (by omega))).trans (bel_ge uw5 (by omega) (by omega))⟩
end Go.Proofs.Ytfafhlahbhopaaa
namespace Go.Proofs.Ytfafhlahbhopaaa
open Go.RowKit Go.Maps
open Classical
set_option maxHeartbeats 2000000 in
theorem long_step (m : Nat) (ih : ∀ (p n : Nat) (w : World), n < m → n ≤ 9223372036854775807 → 1 ≤ p → p ≤ n → Calls Try.prog 56 #[.int .i64 (n : Int), .int .i64 (p : Int)] w fun e w' => e = .returned (.int .i64 ((su p n : Nat) : Int)) ∧ w' = w) (p n : Nat) (w : World) (hm : n ≤ m) (hn : n ≤ 9223372036854775807) (hp1 : 1 ≤ p) (hp2 : p ≤ n) :
    Calls Try.prog 56 #[.int .i64 (n : Int), .int .i64 (p : Int)] w fun e w' => e = .returned (.int .i64 ((su p n : Nat) : Int)) ∧ w' = w := by
  go_enter Try.func56, Try.ntmps56
  go_upto_region 0 with fail
  refine wp_region_lit ?_
  refine vl_gen (fun T => Rp T 25 [(1, gw true (.int .i64 ((p : Nat) : Int))), (0, gw true (.int .i64 ((n : Nat) : Int)))]) (((Rp.nil rfl).cons rfl).cons rfl) (fun Z0 q0 => ?_)
  refine q0.t (.int .i64 ((0 : Nat) : Int)) (ex_assign rfl rfl) fun _ q1 => ?_;clear q0
  refine wpList_nil ?_
  go_upto_region 1 with fail
  refine wp_region_lit ?_
  refine q1.t (.int .i64 ((n : Nat) : Int)) (ex_move rfl (q1.e (j := 0) rfl)) fun _ q2 => ?_;clear q1
  by_cases h1 : n = 1
  · refine q2.t (.bool true) (ex_bin (Y := .int .i64 ((1 : Nat) : Int)) rfl (q2.e (j := 6) rfl) rfl (eqT20 _ _ (by omega) _)) fun _ q3 => ?_;clear q2
    refine wpList_nil ?_
    go_upto_region 2 with fail
    refine wp_cond_true (q3.e (j := 7) rfl) ?_
    go_upto_region 2 with fail
    refine wp_region_lit ?_
    refine q3.t (.int .i64 ((0 : Nat) : Int)) (ex_assign rfl rfl) fun _ q4 => ?_;clear q3
    refine wpList_nil ?_
    go_wp2
    refine bodyPost_ret (results_tmp rfl _ _ _) rfl ?_
    rw [getD_of (q4.a 4 rfl)]
    exact ⟨by rw [h1, su_1]; rfl, rfl⟩
  · refine q2.t (.bool false) (ex_bin (Y := .int .i64 ((1 : Nat) : Int)) rfl (q2.e (j := 6) rfl) rfl (eqF20 _ _ (by omega) _)) fun _ q3 => ?_;clear q2
    refine wpList_nil ?_
    go_upto_region 3 with fail
    refine wp_cond_false (q3.e (j := 7) rfl) ?_
    go_upto_region 3 with fail
    refine wp_region_lit ?_
    refine q3.t (.int .i64 ((n : Nat) : Int)) (ex_move rfl (q3.e (j := 0) rfl)) fun _ q4 => ?_;clear q3
    refine vcallP (want_none rfl) (ex_call rfl (by simp only [List.map_toArray, List.map_cons, List.map_nil, (q4.e (j := 8) rfl), evc] <;> rfl) rfl) (rsplit20 n (by omega) (by omega) w) rfl q4.z (by decide) ?_
    rintro e w1 ⟨rfl, hw1⟩
    refine ⟨_, rfl, q4.k fun _ q5 => ?_⟩;clear q4
    have hw1 := hw1.symm
    subst hw1
    refine q5.t (.int .i64 ((lft n : Nat) : Int)) (ex_assign rfl (q5.e (j := 9) rfl)) fun _ q6 => ?_;clear q5
    refine wpList_nil ?_
    have hb := lft_b (n := n) (by omega)
    go_upto_region 4 with fail
    refine wp_region_lit ?_
    refine q6.t (.int .i64 ((p : Nat) : Int)) (ex_move rfl (q6.e (j := 1) rfl)) fun _ q7 => ?_;clear q6
    refine q7.t (.int .i64 ((lft n : Nat) : Int)) (ex_move rfl (q7.e (j := 5) rfl)) fun _ q8 => ?_;clear q7
    by_cases hp : p ≤ lft n
    · refine q8.t (.bool true) (ex_bin rfl (q8.e (j := 10) rfl) (q8.e (j := 11) rfl) (leT20 _ _ (by omega) _)) fun _ q9 => ?_;clear q8
      refine wpList_nil ?_
      go_upto_region 5 with fail
      refine wp_cond_true (q9.e (j := 12) rfl) ?_
      go_upto_region 5 with fail
      refine wp_region_lit ?_
      refine q9.t (.int .i64 ((lft n : Nat) : Int)) (ex_move rfl (q9.e (j := 5) rfl)) fun _ q10 => ?_;clear q9
      refine q10.t (.int .i64 ((p : Nat) : Int)) (ex_move rfl (q10.e (j := 1) rfl)) fun _ q11 => ?_;clear q10
      refine vcallP (want_none rfl) (ex_call rfl (by simp only [List.map_toArray, List.map_cons, List.map_nil, (q11.e (j := 13) rfl), (q11.e (j := 14) rfl), evc] <;> rfl) rfl) (ih p (lft n) w (by omega) (by omega) (by omega) (by omega)) rfl q11.z (by decide) ?_
      rintro e w2 ⟨rfl, hw2⟩
      refine ⟨_, rfl, q11.k fun _ q12 => ?_⟩;clear q11
      have hw2 := hw2.symm
      subst hw2
      have hsl := su_le (lft n) p (by omega)
      refine q12.t (.int .i64 ((su p (lft n) + 1 : Nat) : Int)) (ex_bin (Y := .int .i64 ((1 : Nat) : Int)) rfl (q12.e (j := 15) rfl) rfl (addP _ _ (su p (lft n)) 1 (by omega) _)) fun _ q13 => ?_;clear q12
      refine q13.t (.int .i64 ((su p (lft n) + 1 : Nat) : Int)) (ex_assign rfl (q13.e (j := 16) rfl)) fun _ q14 => ?_;clear q13
      refine wpList_nil ?_
      go_wp2
      refine bodyPost_ret (results_tmp rfl _ _ _) rfl ?_
      rw [getD_of (q14.a 4 rfl)]
      exact ⟨by rw [su_l p n (by omega) hp, Nat.add_comm 1]; rfl, rfl⟩
    · refine q8.t (.bool false) (ex_bin rfl (q8.e (j := 10) rfl) (q8.e (j := 11) rfl) (leF20 _ _ (by omega) _)) fun _ q9 => ?_;clear q8
      refine wpList_nil ?_
      go_upto_region 6 with fail
      refine wp_cond_false (q9.e (j := 12) rfl) ?_
      go_upto_region 6 with fail
      refine wp_region_lit ?_
      refine q9.t (.int .i64 ((n : Nat) : Int)) (ex_move rfl (q9.e (j := 0) rfl)) fun _ q10 => ?_;clear q9
      refine q10.t (.int .i64 ((lft n : Nat) : Int)) (ex_move rfl (q10.e (j := 5) rfl)) fun _ q11 => ?_;clear q10
      refine q11.t (.int .i64 ((n - (lft n) : Nat) : Int)) (ex_bin rfl (q11.e (j := 17) rfl) (q11.e (j := 18) rfl) (subP _ _ n (lft n) (by omega) (by omega) _)) fun _ q12 => ?_;clear q11
      refine q12.t (.int .i64 ((p : Nat) : Int)) (ex_move rfl (q12.e (j := 1) rfl)) fun _ q13 => ?_;clear q12
      refine q13.t (.int .i64 ((lft n : Nat) : Int)) (ex_move rfl (q13.e (j := 5) rfl)) fun _ q14 => ?_;clear q13
      refine q14.t (.int .i64 ((p - (lft n) : Nat) : Int)) (ex_bin rfl (q14.e (j := 20) rfl) (q14.e (j := 21) rfl) (subP _ _ p (lft n) (by omega) (by omega) _)) fun _ q15 => ?_;clear q14
      refine vcallP (want_none rfl) (ex_call rfl (by simp only [List.map_toArray, List.map_cons, List.map_nil, (q15.e (j := 19) rfl), (q15.e (j := 22) rfl), evc] <;> rfl) rfl) (ih (p - (lft n)) (n - (lft n)) w (by omega) (by omega) (by omega) (by omega)) rfl q15.z (by decide) ?_
      rintro e w2 ⟨rfl, hw2⟩
      refine ⟨_, rfl, q15.k fun _ q16 => ?_⟩;clear q15
      have hw2 := hw2.symm
      subst hw2
      have hsl := su_le (n - (lft n)) (p - (lft n)) (by omega)
      refine q16.t (.int .i64 ((su (p - (lft n)) (n - (lft n)) + 1 : Nat) : Int)) (ex_bin (Y := .int .i64 ((1 : Nat) : Int)) rfl (q16.e (j := 23) rfl) rfl (addP _ _ (su (p - (lft n)) (n - (lft n))) 1 (by omega) _)) fun _ q17 => ?_;clear q16
      refine q17.t (.int .i64 ((su (p - (lft n)) (n - (lft n)) + 1 : Nat) : Int)) (ex_assign rfl (q17.e (j := 24) rfl)) fun _ q18 => ?_;clear q17
      refine wpList_nil ?_
      go_wp2
      refine bodyPost_ret (results_tmp rfl _ _ _) rfl ?_
      rw [getD_of (q18.a 4 rfl)]
      exact ⟨by rw [su_r p n (by omega) hp, Nat.add_comm 1]; rfl, rfl⟩
theorem long20 (p n : Nat) (w : World) (hn : n ≤ 9223372036854775807) (hp1 : 1 ≤ p) (hp2 : p ≤ n) :
    Calls Try.prog 56 #[.int .i64 (n : Int), .int .i64 (p : Int)] w fun e w' => e = .returned (.int .i64 ((su p n : Nat) : Int)) ∧ w' = w := by
  have H : ∀ m, ∀ (p n : Nat) (w : World), n < m → n ≤ 9223372036854775807 → 1 ≤ p → p ≤ n → Calls Try.prog 56 #[.int .i64 (n : Int), .int .i64 (p : Int)] w fun e w' => e = .returned (.int .i64 ((su p n : Nat) : Int)) ∧ w' = w := by
    intro m
    induction m with
    | zero => intro p n w h; omega
    | succ m ih => exact fun p n w hm hn h1 h2 => long_step m ih p n w (by omega) hn h1 h2
  exact H (n + 1) p n w (by omega) hn hp1 hp2
set_option maxHeartbeats 2000000 in
theorem up_step (m : Nat) (ih : ∀ (x : Hs) (p n : Nat) (P : List Hs) (a : Option Addr) (k c : Nat) (w : World), SlY yH w a k c P → k = su p n → n < m → n ≤ 9223372036854775807 → 1 ≤ p → p ≤ n → Calls Try.prog 57 #[.int .i64 (n : Int), .int .i64 (p : Int), x.val, .slice a k c] w fun e w' => e = .returned (cl x p n P).val ∧ Below w.heap.size w w') (x : Hs) (p n : Nat) (P : List Hs) (a : Option Addr) (k c : Nat) (w : World) (h : SlY yH w a k c P) (hk : k = su p n) (hm : n ≤ m) (hn : n ≤ 9223372036854775807) (hp1 : 1 ≤ p) (hp2 : p ≤ n) :
    Calls Try.prog 57 #[.int .i64 (n : Int), .int .i64 (p : Int), x.val, .slice a k c] w fun e w' => e = .returned (cl x p n P).val ∧ Below w.heap.size w w' := by
  have hln := h.len
  go_enter Try.func57, Try.ntmps57
  go_upto_region 0 with fail
  refine wp_region_lit ?_
  refine vl_gen (fun T => Rp T 50 [(3, gw true (.slice a k c)), (2, gw true (x.val)), (1, gw true (.int .i64 ((p : Nat) : Int))), (0, gw true (.int .i64 ((n : Nat) : Int)))]) (((((Rp.nil rfl).cons rfl).cons rfl).cons rfl).cons rfl) (fun Z0 q0 => ?_)
  obtain ⟨w1, hw1⟩ : ∃ y, y = w.alloc (.cells (x.cs).toArray 24) := ⟨_, rfl⟩
  refine vw (.pointer (some ⟨w.heap.size, 0, none⟩)) w1 (want_none rfl) (ex_box18 rfl (q0.e (j := 2) rfl) (by rw [hw1]; exact bxH20 _ _)) rfl q0.z (by decide) (q0.k fun _ q1 => ?_);clear q0
  have Bw1 : BB w1 w.heap.size 24 (x.cs) := by rw [hw1]; exact BB.new _ _ _
  have bw1 : Below w.heap.size w w1 := by rw [hw1]; exact (Below.refl _ _).alloc (Nat.le_refl _) _
  have zw1 : w1.heap.size = w.heap.size + 1 := by rw [hw1]; exact World.size_alloc _ _
  clear hw1
  have d2 : Below w.heap.size w w1 := bw1
  obtain ⟨w3, hw3⟩ : ∃ y, y = w1.alloc (.cells (zH.cs).toArray 24) := ⟨_, rfl⟩
  refine vw (.pointer (some ⟨w1.heap.size, 0, none⟩)) w3 (want_none rfl) (ex_al rfl (by rw [hw3]; exact alH _)) rfl q1.z (by decide) (q1.k fun _ q2 => ?_);clear q1
  have Bw3 : BB w3 w1.heap.size 24 (zH.cs) := by rw [hw3]; exact BB.new _ _ _
  have bw3 : Below w1.heap.size w1 w3 := by rw [hw3]; exact (Below.refl _ _).alloc (Nat.le_refl _) _
  have zw3 : w3.heap.size = w1.heap.size + 1 := by rw [hw3]; exact World.size_alloc _ _
  clear hw3
  have d4 : Below w.heap.size w w3 := d2.trans (bw3.mono d2.size)
  refine wpList_nil ?_
  go_upto_region 1 with fail
  refine wp_region_lit ?_
  refine q2.t (.int .i64 ((n : Nat) : Int)) (ex_move rfl (q2.e (j := 0) rfl)) fun _ q3 => ?_;clear q2
  by_cases h1 : n = 1
  · refine q3.t (.bool true) (ex_bin (Y := .int .i64 ((1 : Nat) : Int)) rfl (q3.e (j := 11) rfl) rfl (eqT20 _ _ (by omega) _)) fun _ q4 => ?_;clear q3
    refine wpList_nil ?_
    go_upto_region 2 with fail
    refine wp_cond_true (q4.e (j := 12) rfl) ?_
    go_upto_region 2 with fail
    refine wp_region_lit ?_
    have B5 : BB w3 w.heap.size 24 (x.cs) := (Bw1.later bw3)
    refine q4.t (x.val) (ex_ld rfl (q4.e (j := 6) rfl) B5.ldH) fun _ q5 => ?_;clear q4
    obtain ⟨w6, hw6⟩ : ∃ y, y = w3.setCells w1.heap.size 0 (x.cs) := ⟨_, rfl⟩
    refine vs w6 (want_none rfl) (ex_st rfl (q5.e (j := 8) rfl) (q5.e (j := 13) rfl) (by rw [hw6]; exact Bw3.stH rfl _)) rfl ?_
    have Bw6 : BB w6 w1.heap.size 24 (x.cs) := by rw [hw6]; exact Bw3.putH rfl _
    have uw6 : Upd (fun k => k = w1.heap.size) w3 w6 := by rw [hw6]; exact upd18 _ _ _ _
    clear hw6
    have zw6 := uw6.size
    have d7 : Below w.heap.size w w6 := d4.trans (bel_ge uw6 d4.size (by omega))
    refine wpList_nil ?_
    go_wp2
    exact Bw6.res rfl (q5.a 8 rfl) Try.underlying24 rfl (by rw [Hs.len]; exact i32h) ⟨by rw [h1, cl_1]; rfl, d7⟩
  · refine q3.t (.bool false) (ex_bin (Y := .int .i64 ((1 : Nat) : Int)) rfl (q3.e (j := 11) rfl) rfl (eqF20 _ _ (by omega) _)) fun _ q4 => ?_;clear q3
    refine wpList_nil ?_
    go_upto_region 3 with fail
    refine wp_cond_false (q4.e (j := 12) rfl) ?_
    go_upto_region 3 with fail
    refine wp_region_lit ?_
    refine q4.t (.int .i64 ((n : Nat) : Int)) (ex_move rfl (q4.e (j := 0) rfl)) fun _ q5 => ?_;clear q4
    refine vcallP (want_none rfl) (ex_call rfl (by simp only [List.map_toArray, List.map_cons, List.map_nil, (q5.e (j := 14) rfl), evc] <;> rfl) rfl) (rsplit20 n (by omega) (by omega) w3) rfl q5.z (by decide) ?_
    rintro e w5 ⟨rfl, hw5⟩
    refine ⟨_, rfl, q5.k fun _ q6 => ?_⟩;clear q5
    have hw5 := hw5.symm
    subst hw5
    refine q6.t (.int .i64 ((lft n : Nat) : Int)) (ex_assign rfl (q6.e (j := 15) rfl)) fun _ q7 => ?_;clear q6
    refine wpList_nil ?_
    have hb := lft_b (n := n) (by omega)
    have hsu := su_le n p (by omega)
    have hk1 : 1 ≤ k := by
      by_cases hp : p ≤ lft n
      · have := su_l p n (by omega) hp; omega
      · have := su_r p n (by omega) hp; omega
    obtain ⟨kq6, ko7, rfl, hkq6, lkq6⟩ := h.place (by rintro rfl; simp at hln; omega)
    have ckq6 := h.cap
    obtain ⟨tp, htp⟩ : ∃ x, P[k - 1]? = some x := ⟨_, List.getElem?_eq_getElem (by omega)⟩
    have hy : P.getD (P.length - 1) zH = tp := by rw [List.getD_eq_getElem?_getD, hln, htp]; rfl
    have HE := hide hy
    clear hy
    have e1 : P.take (k - 1) = P.take (P.length - 1) := by rw [hln]
    have HT := hide e1
    clear e1
    go_upto_region 4 with fail
    refine wp_region_lit ?_
    refine q7.t (.slice (some ⟨kq6, ko7, none⟩) k c) (ex_move rfl (q7.e (j := 3) rfl)) fun _ q8 => ?_;clear q7
    refine q8.t (.int .i64 ((k : Nat) : Int)) (ex_lenG rfl rfl Try.underlying42 (q8.e (j := 16) rfl)) fun _ q9 => ?_;clear q8
    refine q9.t (.int .i64 ((k - 1 : Nat) : Int)) (ex_bin (Y := .int .i64 ((1 : Nat) : Int)) rfl (q9.e (j := 17) rfl) rfl (subP _ _ k 1 (by omega) (by omega) _)) fun _ q10 => ?_;clear q9
    refine q10.t (.int .i64 ((k - 1 : Nat) : Int)) (ex_assign rfl (q10.e (j := 18) rfl)) fun _ q11 => ?_;clear q10
    refine wpList_nil ?_
    go_upto_region 5 with fail
    refine wp_region_lit ?_
    refine q11.t (.int .i64 ((p : Nat) : Int)) (ex_move rfl (q11.e (j := 1) rfl)) fun _ q12 => ?_;clear q11
    refine q12.t (.int .i64 ((lft n : Nat) : Int)) (ex_move rfl (q12.e (j := 9) rfl)) fun _ q13 => ?_;clear q12
    by_cases hp : p ≤ lft n
    · refine q13.t (.bool true) (ex_bin rfl (q13.e (j := 19) rfl) (q13.e (j := 20) rfl) (leT20 _ _ (by omega) _)) fun _ q14 => ?_;clear q13
      refine wpList_nil ?_
      go_upto_region 6 with fail
      refine wp_cond_true (q14.e (j := 21) rfl) ?_
      go_upto_region 6 with fail
      have B8 : BB w3 w.heap.size 24 (x.cs) := (Bw1.later bw3)
      refine vp_start 50 (fun T v => Rp T 50 [(0, gw true (.int .i64 ((n : Nat) : Int))), (1, gw true (.int .i64 ((p : Nat) : Int))), (3, gw true (.slice (some ⟨kq6, ko7, none⟩) k c)), (6, gw true (.pointer (some ⟨w.heap.size, 0, none⟩))), (8, gw true (.pointer (some ⟨w1.heap.size, 0, none⟩))), (9, gw true (.int .i64 ((lft n : Nat) : Int))), (10, gw true (.int .i64 ((k - 1 : Nat) : Int))), (12, gw true (.bool false)), (21, gw true (.bool true))] ∧ Upd (fun k => k = w1.heap.size) w3 v) (fun (i : Nat) (T : Array Value) (v : World) => match i with | 0 => T[22]? = some (gw true (.int .i64 ((lft n : Nat) : Int))) | 1 => T[23]? = some (gw true (.int .i64 ((p : Nat) : Int))) | 2 => T[24]? = some (gw true (x.val)) | 3 => T[25]? = some (gw true (.slice (some ⟨kq6, ko7, none⟩) k c)) | 4 => T[26]? = some (gw true (.int .i64 ((k - 1 : Nat) : Int))) | 5 => T[27]? = some (gw true (.slice (some ⟨kq6, ko7, none⟩) (k - 1) c)) | 6 => T[28]? = some (gw true ((cl x p (lft n) (P.take (k - 1))).val)) | 7 => T[29]? = some (gw true (.slice (some ⟨kq6, ko7, none⟩) k c)) | 8 => T[30]? = some (gw true (.int .i64 ((k - 1 : Nat) : Int))) | 9 => T[31]? = some (gw true (.pointer (some ⟨kq6, ko7 + (k - 1) * 32, none⟩))) | 10 => T[32]? = some (gw true (tp.val)) | 11 => T[33]? = some (gw true ((nd (cl x p (lft n) (P.take (k - 1))) tp).val)) | 12 => BB v w1.heap.size 24 ((nd (cl x p (lft n) (P.take (k - 1))) tp).cs) | _ => True) (fun (i : Nat) (T : Array Value) (v : World) => match i with | 12 => BB v w1.heap.size 24 (zH.cs) | _ => True) (fun j T k => (j = 12 ∧ k = w1.heap.size)) (fun i => match i with | 0 => [22] | 1 => [23] | 2 => [24] | 3 => [25] | 4 => [26] | 5 => [27] | 6 => [28] | 7 => [29] | 8 => [30] | 9 => [31] | 10 => [32] | 11 => [33] | 12 => [] | _ => []) (fun _ => []) [0, 1, 3, 6, 8, 9, 10, 12, 21] (fun i j => false) (fun i => false) (by kernel_rfl) (by kernel_rfl) q14.z ⟨((((((((((Rp.nil q14.z).cons (q14.a 21 rfl)).cons (q14.a 12 rfl)).cons (q14.a 10 rfl)).cons (q14.a 9 rfl)).cons (q14.a 8 rfl)).cons (q14.a 6 rfl)).cons (q14.a 3 rfl)).cons (q14.a 1 rfl)).cons (q14.a 0 rfl)), (Upd.refl _ _).drew20⟩ ?_ ?_ ?_ ?_ ?_ ?_
      · exact ⟨trivial, trivial, trivial, trivial, trivial, trivial, trivial, trivial, trivial, trivial, trivial, trivial, Bw3.later (Below.refl _ _).drew, trivial⟩
      · intro j T T2 v v2 h _ hz hk hu
        exact ⟨h.1.ch hz hk, h.2.tr20 hu (fun k hk he => by have he2 : (j = 12 ∧ k = w1.heap.size) := he; show k = w1.heap.size; omega)⟩
      · refine ⟨?_, ?_, ?_, ?_, ?_, ?_, ?_, ?_, ?_, ?_, ?_, ?_, ?_, trivial⟩
        · exact fun j hj hu T T2 v v2 h hD hz hk hU => (hk 22 (List.mem_singleton.2 rfl)).trans h
        · exact fun j hj hu T T2 v v2 h hD hz hk hU => (hk 23 (List.mem_singleton.2 rfl)).trans h
        · exact fun j hj hu T T2 v v2 h hD hz hk hU => (hk 24 (List.mem_singleton.2 rfl)).trans h
        · exact fun j hj hu T T2 v v2 h hD hz hk hU => (hk 25 (List.mem_singleton.2 rfl)).trans h
        · exact fun j hj hu T T2 v v2 h hD hz hk hU => (hk 26 (List.mem_singleton.2 rfl)).trans h
        · exact fun j hj hu T T2 v v2 h hD hz hk hU => (hk 27 (List.mem_singleton.2 rfl)).trans h
        · exact fun j hj hu T T2 v v2 h hD hz hk hU => (hk 28 (List.mem_singleton.2 rfl)).trans h
        · exact fun j hj hu T T2 v v2 h hD hz hk hU => (hk 29 (List.mem_singleton.2 rfl)).trans h
        · exact fun j hj hu T T2 v v2 h hD hz hk hU => (hk 30 (List.mem_singleton.2 rfl)).trans h
        · exact fun j hj hu T T2 v v2 h hD hz hk hU => (hk 31 (List.mem_singleton.2 rfl)).trans h
        · exact fun j hj hu T T2 v v2 h hD hz hk hU => (hk 32 (List.mem_singleton.2 rfl)).trans h
        · exact fun j hj hu T T2 v v2 h hD hz hk hU => (hk 33 (List.mem_singleton.2 rfl)).trans h
        · intro j hj hu T T2 v v2 h hD hz hk hU
          exact BB.upd h hU (fun he => by have he2 : (j = 12 ∧ w1.heap.size = w1.heap.size) := he; omega)
      · refine ⟨fun _ _ _ _ _ _ _ _ _ _ _ => trivial, fun _ _ _ _ _ _ _ _ _ _ _ => trivial, fun _ _ _ _ _ _ _ _ _ _ _ => trivial, fun _ _ _ _ _ _ _ _ _ _ _ => trivial, fun _ _ _ _ _ _ _ _ _ _ _ => trivial, fun _ _ _ _ _ _ _ _ _ _ _ => trivial, fun _ _ _ _ _ _ _ _ _ _ _ => trivial, fun _ _ _ _ _ _ _ _ _ _ _ => trivial, fun _ _ _ _ _ _ _ _ _ _ _ => trivial, fun _ _ _ _ _ _ _ _ _ _ _ => trivial, fun _ _ _ _ _ _ _ _ _ _ _ => trivial, fun _ _ _ _ _ _ _ _ _ _ _ => trivial, ?_, trivial⟩
        · exact fun j hj T T2 v v2 h _ hz hk hU => BB.upd h hU (fun he => by have he2 : (j = 12 ∧ w1.heap.size = w1.heap.size) := he; omega)
      · refine ⟨?_, ?_, ?_, ?_, ?_, ?_, ?_, ?_, ?_, ?_, ?_, ?_, ?_, trivial⟩
        · intro T df v hz hB hd hC
          have qb := hB.1
          have hU := hB.2
          exact ⟨true, want_none rfl, fun _ => .inl ⟨_, _, ex_move rfl (qb.e (j := 9) rfl), Upd.refl _ _, fun h => absurd h (by decide), fun T2 N => N.s 22 rfl⟩, fun h => absurd h (by decide), fun h => absurd h (by decide)⟩
        · intro T df v hz hB hd hC
          have qb := hB.1
          have hU := hB.2
          exact ⟨true, want_none rfl, fun _ => .inl ⟨_, _, ex_move rfl (qb.e (j := 1) rfl), Upd.refl _ _, fun h => absurd h (by decide), fun T2 N => N.s 23 rfl⟩, fun h => absurd h (by decide), fun h => absurd h (by decide)⟩
        · intro T df v hz hB hd hC
          have qb := hB.1
          have hU := hB.2
          exact ⟨true, want_none rfl, fun _ => .inl ⟨_, _, ex_ld rfl (qb.e (j := 6) rfl) (B8.upd hU (show ¬ (w.heap.size = w1.heap.size) by omega)).ldH, Upd.refl _ _, fun h => absurd h (by decide), fun T2 N => N.s 24 rfl⟩, fun h => absurd h (by decide), fun h => absurd h (by decide)⟩
        · intro T df v hz hB hd hC
          have qb := hB.1
          have hU := hB.2
          exact ⟨true, want_none rfl, fun _ => .inl ⟨_, _, ex_move rfl (qb.e (j := 3) rfl), Upd.refl _ _, fun h => absurd h (by decide), fun T2 N => N.s 25 rfl⟩, fun h => absurd h (by decide), fun h => absurd h (by decide)⟩
        · intro T df v hz hB hd hC
          have qb := hB.1
          have hU := hB.2
          exact ⟨true, want_none rfl, fun _ => .inl ⟨_, _, ex_move rfl (qb.e (j := 10) rfl), Upd.refl _ _, fun h => absurd h (by decide), fun T2 N => N.s 26 rfl⟩, fun h => absurd h (by decide), fun h => absurd h (by decide)⟩
        · intro T df v hz hB hd hC
          have qb := hB.1
          have hU := hB.2
          have p3 : T[25]? = some (gw true (.slice (some ⟨kq6, ko7, none⟩) k c)) := hd 3 (by kernel_rfl) (by kernel_rfl)
          have p4 : T[26]? = some (gw true (.int .i64 ((k - 1 : Nat) : Int))) := hd 4 (by kernel_rfl) (by kernel_rfl)
          exact ⟨true, want_none rfl, fun _ => .inl ⟨_, _, ex_sl19 rfl (ev p3 rfl) rfl (congrArg some (ev p4 rfl)) rfl (slToH kq6 ko7 k c (k - 1) (by omega) (ckq6) _), Upd.refl _ _, fun h => absurd h (by decide), fun T2 N => N.s 27 rfl⟩, fun h => absurd h (by decide), fun h => absurd h (by decide)⟩
        · intro T df v hz hB hd hC
          have qb := hB.1
          have hU := hB.2
          have D : Below w.heap.size w v := d4.trans (hU.below d4.size (fun k hk => by have hk2 : k = w1.heap.size := hk; omega))
          have p0 : T[22]? = some (gw true (.int .i64 ((lft n : Nat) : Int))) := hd 0 (by kernel_rfl) (by kernel_rfl)
          have p1 : T[23]? = some (gw true (.int .i64 ((p : Nat) : Int))) := hd 1 (by kernel_rfl) (by kernel_rfl)
          have p2 : T[24]? = some (gw true (x.val)) := hd 2 (by kernel_rfl) (by kernel_rfl)
          have p5 : T[27]? = some (gw true (.slice (some ⟨kq6, ko7, none⟩) (k - 1) c)) := hd 5 (by kernel_rfl) (by kernel_rfl)
          refine ⟨true, want_none rfl, fun hc => .inr (.inr ⟨_, _, _, ex_call rfl (by simp only [List.map_toArray, List.map_cons, List.map_nil, (ev p0 rfl), (ev p1 rfl), (ev p2 rfl), (ev p5 rfl), evc] <;> rfl) rfl, ih x p (lft n) (P.take (k - 1)) _ _ _ v ((h.later D).take (k - 1) (by omega)) (by have := su_l p n (by omega) hp; omega) (by omega) (by omega) (by omega) (by omega), ?_⟩), fun _ => rfl, fun h => absurd h (by decide)⟩
          rintro e w9 ⟨rfl, b9⟩
          exact ⟨_, rfl, Upd.of_below b9, fun h => absurd h (by decide), fun T2 N => N.s 28 rfl⟩
        · intro T df v hz hB hd hC
          have qb := hB.1
          have hU := hB.2
          exact ⟨true, want_none rfl, fun _ => .inl ⟨_, _, ex_move rfl (qb.e (j := 3) rfl), Upd.refl _ _, fun h => absurd h (by decide), fun T2 N => N.s 29 rfl⟩, fun h => absurd h (by decide), fun h => absurd h (by decide)⟩
        · intro T df v hz hB hd hC
          have qb := hB.1
          have hU := hB.2
          exact ⟨true, want_none rfl, fun _ => .inl ⟨_, _, ex_move rfl (qb.e (j := 10) rfl), Upd.refl _ _, fun h => absurd h (by decide), fun T2 N => N.s 30 rfl⟩, fun h => absurd h (by decide), fun h => absurd h (by decide)⟩
        · intro T df v hz hB hd hC
          have qb := hB.1
          have hU := hB.2
          have p7 : T[29]? = some (gw true (.slice (some ⟨kq6, ko7, none⟩) k c)) := hd 7 (by kernel_rfl) (by kernel_rfl)
          have p8 : T[30]? = some (gw true (.int .i64 ((k - 1 : Nat) : Int))) := hd 8 (by kernel_rfl) (by kernel_rfl)
          exact ⟨true, want_none rfl, fun _ => .inl ⟨_, _, ex_ix rfl (ev p7 rfl) (ev p8 rfl) (ixH kq6 ko7 k c (k - 1) (by omega) _), Upd.refl _ _, fun h => absurd h (by decide), fun T2 N => N.s 31 rfl⟩, fun h => absurd h (by decide), fun h => absurd h (by decide)⟩
        · intro T df v hz hB hd hC
          have qb := hB.1
          have hU := hB.2
          have D : Below w.heap.size w v := d4.trans (hU.below d4.size (fun k hk => by have hk2 : k = w1.heap.size := hk; omega))
          have p9 : T[31]? = some (gw true (.pointer (some ⟨kq6, ko7 + (k - 1) * 32, none⟩))) := hd 9 (by kernel_rfl) (by kernel_rfl)
          exact ⟨true, want_none rfl, fun _ => .inl ⟨_, _, ex_ld rfl (ev p9 rfl) (ldH20 (lkq6.upd (S := fun _ => False) (Upd.of_below D) hkq6 id) htp), Upd.refl _ _, fun h => absurd h (by decide), fun T2 N => N.s 32 rfl⟩, fun h => absurd h (by decide), fun h => absurd h (by decide)⟩
        · intro T df v hz hB hd hC
          have qb := hB.1
          have hU := hB.2
          have p6 : T[28]? = some (gw true ((cl x p (lft n) (P.take (k - 1))).val)) := hd 6 (by kernel_rfl) (by kernel_rfl)
          have p10 : T[32]? = some (gw true (tp.val)) := hd 10 (by kernel_rfl) (by kernel_rfl)
          refine ⟨true, want_none rfl, fun hc => .inr (.inr ⟨_, _, _, ex_call rfl (by simp only [List.map_toArray, List.map_cons, List.map_nil, (ev p6 rfl), (ev p10 rfl), evc] <;> rfl) rfl, rnode20 (cl x p (lft n) (P.take (k - 1))) tp v, ?_⟩), fun _ => rfl, fun h => absurd h (by decide)⟩
          rintro e w9 ⟨rfl, b9⟩
          exact ⟨_, rfl, Upd.of_below b9, fun h => absurd h (by decide), fun T2 N => N.s 33 rfl⟩
        · intro T df v hz hB hd hC
          have qb := hB.1
          have hU := hB.2
          have p11 : T[33]? = some (gw true ((nd (cl x p (lft n) (P.take (k - 1))) tp).val)) := hd 11 (by kernel_rfl) (by kernel_rfl)
          have hq : BB v w1.heap.size 24 (zH.cs) := hC 12 _ rfl (.inl rfl)
          exact ⟨_, want_none rfl, fun _ => .inr (.inl ⟨_, ex_st rfl (qb.e (j := 8) rfl) (ev p11 rfl) (hq.stH rfl _), (upd18 _ _ _ _).sub20 (fun k hk => by have hk2 : k = w1.heap.size := hk; show (12 = 12 ∧ k = w1.heap.size); omega), fun h => absurd h (by decide), fun T2 N => hq.putH rfl _⟩), fun h => absurd h (by decide), fun h => absurd h (by decide)⟩
      intro T v9 hz hB hp ha
      have qb := hB.1
      have U10 := hB.2
      clear hB hz
      clear q14
      have d11 : Below w.heap.size w v9 := d4.trans (U10.below (Nat.le_trans d4.size (Nat.le_refl _)) (fun k hk => by have hk2 : k = w1.heap.size := hk; omega))
      have zv9 := U10.size
      have B12 : BB v9 w1.heap.size 24 ((nd (cl x p (lft n) (P.take (k - 1))) tp).cs) := hp 12 _ rfl (fun k => rfl)
      have q15 := qb
      clear hp ha qb
      go_wp2
      exact B12.res rfl (q15.a 8 rfl) Try.underlying24 rfl (by rw [Hs.len]; exact i32h) ⟨by rw [cl_l x p n P (by omega) hp, HE.out, ← HT.out]; rfl, d11⟩
    · refine q13.t (.bool false) (ex_bin rfl (q13.e (j := 19) rfl) (q13.e (j := 20) rfl) (leF20 _ _ (by omega) _)) fun _ q14 => ?_;clear q13
      refine wpList_nil ?_
      go_upto_region 7 with fail
      refine wp_cond_false (q14.e (j := 21) rfl) ?_
      go_upto_region 7 with fail
      have B8 : BB w3 w.heap.size 24 (x.cs) := (Bw1.later bw3)
      refine vp_start 50 (fun T v => Rp T 50 [(0, gw true (.int .i64 ((n : Nat) : Int))), (1, gw true (.int .i64 ((p : Nat) : Int))), (3, gw true (.slice (some ⟨kq6, ko7, none⟩) k c)), (6, gw true (.pointer (some ⟨w.heap.size, 0, none⟩))), (8, gw true (.pointer (some ⟨w1.heap.size, 0, none⟩))), (9, gw true (.int .i64 ((lft n : Nat) : Int))), (10, gw true (.int .i64 ((k - 1 : Nat) : Int))), (12, gw true (.bool false)), (21, gw true (.bool false))] ∧ Upd (fun k => k = w1.heap.size) w3 v) (fun (i : Nat) (T : Array Value) (v : World) => match i with | 0 => T[34]? = some (gw true (.slice (some ⟨kq6, ko7, none⟩) k c)) | 1 => T[35]? = some (gw true (.int .i64 ((k - 1 : Nat) : Int))) | 2 => T[36]? = some (gw true (.pointer (some ⟨kq6, ko7 + (k - 1) * 32, none⟩))) | 3 => T[37]? = some (gw true (tp.val)) | 4 => T[38]? = some (gw true (.int .i64 ((n : Nat) : Int))) | 5 => T[39]? = some (gw true (.int .i64 ((lft n : Nat) : Int))) | 6 => T[40]? = some (gw true (.int .i64 ((n - (lft n) : Nat) : Int))) | 7 => T[41]? = some (gw true (.int .i64 ((p : Nat) : Int))) | 8 => T[42]? = some (gw true (.int .i64 ((lft n : Nat) : Int))) | 9 => T[43]? = some (gw true (.int .i64 ((p - (lft n) : Nat) : Int))) | 10 => T[44]? = some (gw true (x.val)) | 11 => T[45]? = some (gw true (.slice (some ⟨kq6, ko7, none⟩) k c)) | 12 => T[46]? = some (gw true (.int .i64 ((k - 1 : Nat) : Int))) | 13 => T[47]? = some (gw true (.slice (some ⟨kq6, ko7, none⟩) (k - 1) c)) | 14 => T[48]? = some (gw true ((cl x (p - (lft n)) (n - (lft n)) (P.take (k - 1))).val)) | 15 => T[49]? = some (gw true ((nd tp (cl x (p - (lft n)) (n - (lft n)) (P.take (k - 1)))).val)) | 16 => BB v w1.heap.size 24 ((nd tp (cl x (p - (lft n)) (n - (lft n)) (P.take (k - 1)))).cs) | _ => True) (fun (i : Nat) (T : Array Value) (v : World) => match i with | 16 => BB v w1.heap.size 24 (zH.cs) | _ => True) (fun j T k => (j = 16 ∧ k = w1.heap.size)) (fun i => match i with | 0 => [34] | 1 => [35] | 2 => [36] | 3 => [37] | 4 => [38] | 5 => [39] | 6 => [40] | 7 => [41] | 8 => [42] | 9 => [43] | 10 => [44] | 11 => [45] | 12 => [46] | 13 => [47] | 14 => [48] | 15 => [49] | 16 => [] | _ => []) (fun _ => []) [0, 1, 3, 6, 8, 9, 10, 12, 21] (fun i j => false) (fun i => false) (by kernel_rfl) (by kernel_rfl) q14.z ⟨((((((((((Rp.nil q14.z).cons (q14.a 21 rfl)).cons (q14.a 12 rfl)).cons (q14.a 10 rfl)).cons (q14.a 9 rfl)).cons (q14.a 8 rfl)).cons (q14.a 6 rfl)).cons (q14.a 3 rfl)).cons (q14.a 1 rfl)).cons (q14.a 0 rfl)), (Upd.refl _ _).drew20⟩ ?_ ?_ ?_ ?_ ?_ ?_
      · exact ⟨trivial, trivial, trivial, trivial, trivial, trivial, trivial, trivial, trivial, trivial, trivial, trivial, trivial, trivial, trivial, trivial, Bw3.later (Below.refl _ _).drew, trivial⟩
      · intro j T T2 v v2 h _ hz hk hu
        exact ⟨h.1.ch hz hk, h.2.tr20 hu (fun k hk he => by have he2 : (j = 16 ∧ k = w1.heap.size) := he; show k = w1.heap.size; omega)⟩
      · refine ⟨?_, ?_, ?_, ?_, ?_, ?_, ?_, ?_, ?_, ?_, ?_, ?_, ?_, ?_, ?_, ?_, ?_, trivial⟩
        · exact fun j hj hu T T2 v v2 h hD hz hk hU => (hk 34 (List.mem_singleton.2 rfl)).trans h
        · exact fun j hj hu T T2 v v2 h hD hz hk hU => (hk 35 (List.mem_singleton.2 rfl)).trans h
        · exact fun j hj hu T T2 v v2 h hD hz hk hU => (hk 36 (List.mem_singleton.2 rfl)).trans h
        · exact fun j hj hu T T2 v v2 h hD hz hk hU => (hk 37 (List.mem_singleton.2 rfl)).trans h
        · exact fun j hj hu T T2 v v2 h hD hz hk hU => (hk 38 (List.mem_singleton.2 rfl)).trans h
        · exact fun j hj hu T T2 v v2 h hD hz hk hU => (hk 39 (List.mem_singleton.2 rfl)).trans h
        · exact fun j hj hu T T2 v v2 h hD hz hk hU => (hk 40 (List.mem_singleton.2 rfl)).trans h
        · exact fun j hj hu T T2 v v2 h hD hz hk hU => (hk 41 (List.mem_singleton.2 rfl)).trans h
        · exact fun j hj hu T T2 v v2 h hD hz hk hU => (hk 42 (List.mem_singleton.2 rfl)).trans h
        · exact fun j hj hu T T2 v v2 h hD hz hk hU => (hk 43 (List.mem_singleton.2 rfl)).trans h
        · exact fun j hj hu T T2 v v2 h hD hz hk hU => (hk 44 (List.mem_singleton.2 rfl)).trans h
        · exact fun j hj hu T T2 v v2 h hD hz hk hU => (hk 45 (List.mem_singleton.2 rfl)).trans h
        · exact fun j hj hu T T2 v v2 h hD hz hk hU => (hk 46 (List.mem_singleton.2 rfl)).trans h
        · exact fun j hj hu T T2 v v2 h hD hz hk hU => (hk 47 (List.mem_singleton.2 rfl)).trans h
        · exact fun j hj hu T T2 v v2 h hD hz hk hU => (hk 48 (List.mem_singleton.2 rfl)).trans h
        · exact fun j hj hu T T2 v v2 h hD hz hk hU => (hk 49 (List.mem_singleton.2 rfl)).trans h
        · intro j hj hu T T2 v v2 h hD hz hk hU
          exact BB.upd h hU (fun he => by have he2 : (j = 16 ∧ w1.heap.size = w1.heap.size) := he; omega)
      · refine ⟨fun _ _ _ _ _ _ _ _ _ _ _ => trivial, fun _ _ _ _ _ _ _ _ _ _ _ => trivial, fun _ _ _ _ _ _ _ _ _ _ _ => trivial, fun _ _ _ _ _ _ _ _ _ _ _ => trivial, fun _ _ _ _ _ _ _ _ _ _ _ => trivial, fun _ _ _ _ _ _ _ _ _ _ _ => trivial, fun _ _ _ _ _ _ _ _ _ _ _ => trivial, fun _ _ _ _ _ _ _ _ _ _ _ => trivial, fun _ _ _ _ _ _ _ _ _ _ _ => trivial, fun _ _ _ _ _ _ _ _ _ _ _ => trivial, fun _ _ _ _ _ _ _ _ _ _ _ => trivial, fun _ _ _ _ _ _ _ _ _ _ _ => trivial, fun _ _ _ _ _ _ _ _ _ _ _ => trivial, fun _ _ _ _ _ _ _ _ _ _ _ => trivial, fun _ _ _ _ _ _ _ _ _ _ _ => trivial, fun _ _ _ _ _ _ _ _ _ _ _ => trivial, ?_, trivial⟩
        · exact fun j hj T T2 v v2 h _ hz hk hU => BB.upd h hU (fun he => by have he2 : (j = 16 ∧ w1.heap.size = w1.heap.size) := he; omega)
      · refine ⟨?_, ?_, ?_, ?_, ?_, ?_, ?_, ?_, ?_, ?_, ?_, ?_, ?_, ?_, ?_, ?_, ?_, trivial⟩
        · intro T df v hz hB hd hC
          have qb := hB.1
          have hU := hB.2
          exact ⟨true, want_none rfl, fun _ => .inl ⟨_, _, ex_move rfl (qb.e (j := 3) rfl), Upd.refl _ _, fun h => absurd h (by decide), fun T2 N => N.s 34 rfl⟩, fun h => absurd h (by decide), fun h => absurd h (by decide)⟩
        · intro T df v hz hB hd hC
          have qb := hB.1
          have hU := hB.2
          exact ⟨true, want_none rfl, fun _ => .inl ⟨_, _, ex_move rfl (qb.e (j := 10) rfl), Upd.refl _ _, fun h => absurd h (by decide), fun T2 N => N.s 35 rfl⟩, fun h => absurd h (by decide), fun h => absurd h (by decide)⟩
        · intro T df v hz hB hd hC
          have qb := hB.1
          have hU := hB.2
          have p0 : T[34]? = some (gw true (.slice (some ⟨kq6, ko7, none⟩) k c)) := hd 0 (by kernel_rfl) (by kernel_rfl)
          have p1 : T[35]? = some (gw true (.int .i64 ((k - 1 : Nat) : Int))) := hd 1 (by kernel_rfl) (by kernel_rfl)
          exact ⟨true, want_none rfl, fun _ => .inl ⟨_, _, ex_ix rfl (ev p0 rfl) (ev p1 rfl) (ixH kq6 ko7 k c (k - 1) (by omega) _), Upd.refl _ _, fun h => absurd h (by decide), fun T2 N => N.s 36 rfl⟩, fun h => absurd h (by decide), fun h => absurd h (by decide)⟩
        · intro T df v hz hB hd hC
          have qb := hB.1
          have hU := hB.2
          have D : Below w.heap.size w v := d4.trans (hU.below d4.size (fun k hk => by have hk2 : k = w1.heap.size := hk; omega))
          have p2 : T[36]? = some (gw true (.pointer (some ⟨kq6, ko7 + (k - 1) * 32, none⟩))) := hd 2 (by kernel_rfl) (by kernel_rfl)
          exact ⟨true, want_none rfl, fun _ => .inl ⟨_, _, ex_ld rfl (ev p2 rfl) (ldH20 (lkq6.upd (S := fun _ => False) (Upd.of_below D) hkq6 id) htp), Upd.refl _ _, fun h => absurd h (by decide), fun T2 N => N.s 37 rfl⟩, fun h => absurd h (by decide), fun h => absurd h (by decide)⟩
        · intro T df v hz hB hd hC
          have qb := hB.1
          have hU := hB.2
          exact ⟨true, want_none rfl, fun _ => .inl ⟨_, _, ex_move rfl (qb.e (j := 0) rfl), Upd.refl _ _, fun h => absurd h (by decide), fun T2 N => N.s 38 rfl⟩, fun h => absurd h (by decide), fun h => absurd h (by decide)⟩
        · intro T df v hz hB hd hC
          have qb := hB.1
          have hU := hB.2
          exact ⟨true, want_none rfl, fun _ => .inl ⟨_, _, ex_move rfl (qb.e (j := 9) rfl), Upd.refl _ _, fun h => absurd h (by decide), fun T2 N => N.s 39 rfl⟩, fun h => absurd h (by decide), fun h => absurd h (by decide)⟩
        · intro T df v hz hB hd hC
          have qb := hB.1
          have hU := hB.2
          have p4 : T[38]? = some (gw true (.int .i64 ((n : Nat) : Int))) := hd 4 (by kernel_rfl) (by kernel_rfl)
          have p5 : T[39]? = some (gw true (.int .i64 ((lft n : Nat) : Int))) := hd 5 (by kernel_rfl) (by kernel_rfl)
          exact ⟨true, want_none rfl, fun _ => .inl ⟨_, _, ex_bin rfl (ev p4 rfl) (ev p5 rfl) (subP _ _ n (lft n) (by omega) (by omega) _), Upd.refl _ _, fun h => absurd h (by decide), fun T2 N => N.s 40 rfl⟩, fun h => absurd h (by decide), fun h => absurd h (by decide)⟩
        · intro T df v hz hB hd hC
          have qb := hB.1
          have hU := hB.2
          exact ⟨true, want_none rfl, fun _ => .inl ⟨_, _, ex_move rfl (qb.e (j := 1) rfl), Upd.refl _ _, fun h => absurd h (by decide), fun T2 N => N.s 41 rfl⟩, fun h => absurd h (by decide), fun h => absurd h (by decide)⟩
        · intro T df v hz hB hd hC
          have qb := hB.1
          have hU := hB.2
          exact ⟨true, want_none rfl, fun _ => .inl ⟨_, _, ex_move rfl (qb.e (j := 9) rfl), Upd.refl _ _, fun h => absurd h (by decide), fun T2 N => N.s 42 rfl⟩, fun h => absurd h (by decide), fun h => absurd h (by decide)⟩
        · intro T df v hz hB hd hC
          have qb := hB.1
          have hU := hB.2
          have p7 : T[41]? = some (gw true (.int .i64 ((p : Nat) : Int))) := hd 7 (by kernel_rfl) (by kernel_rfl)
          have p8 : T[42]? = some (gw true (.int .i64 ((lft n : Nat) : Int))) := hd 8 (by kernel_rfl) (by kernel_rfl)
          exact ⟨true, want_none rfl, fun _ => .inl ⟨_, _, ex_bin rfl (ev p7 rfl) (ev p8 rfl) (subP _ _ p (lft n) (by omega) (by omega) _), Upd.refl _ _, fun h => absurd h (by decide), fun T2 N => N.s 43 rfl⟩, fun h => absurd h (by decide), fun h => absurd h (by decide)⟩
        · intro T df v hz hB hd hC
          have qb := hB.1
          have hU := hB.2
          exact ⟨true, want_none rfl, fun _ => .inl ⟨_, _, ex_ld rfl (qb.e (j := 6) rfl) (B8.upd hU (show ¬ (w.heap.size = w1.heap.size) by omega)).ldH, Upd.refl _ _, fun h => absurd h (by decide), fun T2 N => N.s 44 rfl⟩, fun h => absurd h (by decide), fun h => absurd h (by decide)⟩
        · intro T df v hz hB hd hC
          have qb := hB.1
          have hU := hB.2
          exact ⟨true, want_none rfl, fun _ => .inl ⟨_, _, ex_move rfl (qb.e (j := 3) rfl), Upd.refl _ _, fun h => absurd h (by decide), fun T2 N => N.s 45 rfl⟩, fun h => absurd h (by decide), fun h => absurd h (by decide)⟩
        · intro T df v hz hB hd hC
          have qb := hB.1
          have hU := hB.2
          exact ⟨true, want_none rfl, fun _ => .inl ⟨_, _, ex_move rfl (qb.e (j := 10) rfl), Upd.refl _ _, fun h => absurd h (by decide), fun T2 N => N.s 46 rfl⟩, fun h => absurd h (by decide), fun h => absurd h (by decide)⟩
        · intro T df v hz hB hd hC
          have qb := hB.1
          have hU := hB.2
          have p11 : T[45]? = some (gw true (.slice (some ⟨kq6, ko7, none⟩) k c)) := hd 11 (by kernel_rfl) (by kernel_rfl)
          have p12 : T[46]? = some (gw true (.int .i64 ((k - 1 : Nat) : Int))) := hd 12 (by kernel_rfl) (by kernel_rfl)
          exact ⟨true, want_none rfl, fun _ => .inl ⟨_, _, ex_sl19 rfl (ev p11 rfl) rfl (congrArg some (ev p12 rfl)) rfl (slToH kq6 ko7 k c (k - 1) (by omega) (ckq6) _), Upd.refl _ _, fun h => absurd h (by decide), fun T2 N => N.s 47 rfl⟩, fun h => absurd h (by decide), fun h => absurd h (by decide)⟩
        · intro T df v hz hB hd hC
          have qb := hB.1
          have hU := hB.2
          have D : Below w.heap.size w v := d4.trans (hU.below d4.size (fun k hk => by have hk2 : k = w1.heap.size := hk; omega))
          have p6 : T[40]? = some (gw true (.int .i64 ((n - (lft n) : Nat) : Int))) := hd 6 (by kernel_rfl) (by kernel_rfl)
          have p9 : T[43]? = some (gw true (.int .i64 ((p - (lft n) : Nat) : Int))) := hd 9 (by kernel_rfl) (by kernel_rfl)
          have p10 : T[44]? = some (gw true (x.val)) := hd 10 (by kernel_rfl) (by kernel_rfl)
          have p13 : T[47]? = some (gw true (.slice (some ⟨kq6, ko7, none⟩) (k - 1) c)) := hd 13 (by kernel_rfl) (by kernel_rfl)
          refine ⟨true, want_none rfl, fun hc => .inr (.inr ⟨_, _, _, ex_call rfl (by simp only [List.map_toArray, List.map_cons, List.map_nil, (ev p6 rfl), (ev p9 rfl), (ev p10 rfl), (ev p13 rfl), evc] <;> rfl) rfl, ih x (p - (lft n)) (n - (lft n)) (P.take (k - 1)) _ _ _ v ((h.later D).take (k - 1) (by omega)) (by have := su_r p n (by omega) hp; omega) (by omega) (by omega) (by omega) (by omega), ?_⟩), fun _ => rfl, fun h => absurd h (by decide)⟩
          rintro e w9 ⟨rfl, b9⟩
          exact ⟨_, rfl, Upd.of_below b9, fun h => absurd h (by decide), fun T2 N => N.s 48 rfl⟩
        · intro T df v hz hB hd hC
          have qb := hB.1
          have hU := hB.2
          have p3 : T[37]? = some (gw true (tp.val)) := hd 3 (by kernel_rfl) (by kernel_rfl)
          have p14 : T[48]? = some (gw true ((cl x (p - (lft n)) (n - (lft n)) (P.take (k - 1))).val)) := hd 14 (by kernel_rfl) (by kernel_rfl)
          refine ⟨true, want_none rfl, fun hc => .inr (.inr ⟨_, _, _, ex_call rfl (by simp only [List.map_toArray, List.map_cons, List.map_nil, (ev p3 rfl), (ev p14 rfl), evc] <;> rfl) rfl, rnode20 tp (cl x (p - (lft n)) (n - (lft n)) (P.take (k - 1))) v, ?_⟩), fun _ => rfl, fun h => absurd h (by decide)⟩
          rintro e w9 ⟨rfl, b9⟩
          exact ⟨_, rfl, Upd.of_below b9, fun h => absurd h (by decide), fun T2 N => N.s 49 rfl⟩
        · intro T df v hz hB hd hC
          have qb := hB.1
          have hU := hB.2
          have p15 : T[49]? = some (gw true ((nd tp (cl x (p - (lft n)) (n - (lft n)) (P.take (k - 1)))).val)) := hd 15 (by kernel_rfl) (by kernel_rfl)
          have hq : BB v w1.heap.size 24 (zH.cs) := hC 16 _ rfl (.inl rfl)
          exact ⟨_, want_none rfl, fun _ => .inr (.inl ⟨_, ex_st rfl (qb.e (j := 8) rfl) (ev p15 rfl) (hq.stH rfl _), (upd18 _ _ _ _).sub20 (fun k hk => by have hk2 : k = w1.heap.size := hk; show (16 = 16 ∧ k = w1.heap.size); omega), fun h => absurd h (by decide), fun T2 N => hq.putH rfl _⟩), fun h => absurd h (by decide), fun h => absurd h (by decide)⟩
      intro T v9 hz hB hp ha
      have qb := hB.1
      have U10 := hB.2
      clear hB hz
      clear q14
      have d11 : Below w.heap.size w v9 := d4.trans (U10.below (Nat.le_trans d4.size (Nat.le_refl _)) (fun k hk => by have hk2 : k = w1.heap.size := hk; omega))
      have zv9 := U10.size
      have B12 : BB v9 w1.heap.size 24 ((nd tp (cl x (p - (lft n)) (n - (lft n)) (P.take (k - 1)))).cs) := hp 16 _ rfl (fun k => rfl)
      have q15 := qb
      clear hp ha qb
      go_wp2
      exact B12.res rfl (q15.a 8 rfl) Try.underlying24 rfl (by rw [Hs.len]; exact i32h) ⟨by rw [cl_r x p n P (by omega) hp, HE.out, ← HT.out]; rfl, d11⟩
theorem up20 (x : Hs) (p n : Nat) (P : List Hs) (a : Option Addr) (k c : Nat) (w : World) (h : SlY yH w a k c P) (hk : k = su p n) (hn : n ≤ 9223372036854775807) (hp1 : 1 ≤ p) (hp2 : p ≤ n) :
    Calls Try.prog 57 #[.int .i64 (n : Int), .int .i64 (p : Int), x.val, .slice a k c] w fun e w' => e = .returned (cl x p n P).val ∧ Below w.heap.size w w' := by
  have H : ∀ m, ∀ (x : Hs) (p n : Nat) (P : List Hs) (a : Option Addr) (k c : Nat) (w : World), SlY yH w a k c P → k = su p n → n < m → n ≤ 9223372036854775807 → 1 ≤ p → p ≤ n → Calls Try.prog 57 #[.int .i64 (n : Int), .int .i64 (p : Int), x.val, .slice a k c] w fun e w' => e = .returned (cl x p n P).val ∧ Below w.heap.size w w' := by
    intro m
    induction m with
    | zero => intro x p n P a k c w _ _ h; omega
    | succ m ih => exact fun x p n P a k c w h hk hm hn h1 h2 => up_step m ih x p n P a k c w h hk (by omega) hn h1 h2
  exact H (n + 1) x p n P a k c w h hk (by omega) hn hp1 hp2
set_option maxHeartbeats 2000000 in
theorem rincluded20 (g : Hs) (s p : Int) (x : En) (P : List Hs) (a : Option Addr) (k c : Nat) (w : World) (h : SlY yH w a k c P) (hs : s ≤ 9223372036854775807) (hv : x.o.v.size ≤ 140737488351232) :
    Calls Try.prog 26 #[g.val, .int .i64 s, .int .i64 p, x.val20, .slice a k c] w fun e w' => e = .returned (.int .i64 (icR g s p x P)) ∧ Below w.heap.size w w' := by
  have hln := h.len
  go_enter Try.func26, Try.ntmps26
  go_upto_region 0 with fail
  refine wp_region_lit ?_
  refine vl_gen (fun T => Rp T 34 [(4, gw true (.slice a k c)), (3, gw true (x.val20)), (2, gw true (.int .i64 (p : Int))), (1, gw true (.int .i64 (s : Int))), (0, gw true (g.val))]) ((((((Rp.nil rfl).cons rfl).cons rfl).cons rfl).cons rfl).cons rfl) (fun Z0 q0 => ?_)
  obtain ⟨w1, hw1⟩ : ∃ y, y = w.alloc (.cells (g.cs).toArray 24) := ⟨_, rfl⟩
  refine vw (.pointer (some ⟨w.heap.size, 0, none⟩)) w1 (want_none rfl) (ex_box18 rfl (q0.e (j := 0) rfl) (by rw [hw1]; exact bxH20 _ _)) rfl q0.z (by decide) (q0.k fun _ q1 => ?_);clear q0
  have Bw1 : BB w1 w.heap.size 24 (g.cs) := by rw [hw1]; exact BB.new _ _ _
  have bw1 : Below w.heap.size w w1 := by rw [hw1]; exact (Below.refl _ _).alloc (Nat.le_refl _) _
  have zw1 : w1.heap.size = w.heap.size + 1 := by rw [hw1]; exact World.size_alloc _ _
  clear hw1
  have d2 : Below w.heap.size w w1 := bw1
  obtain ⟨w3, hw3⟩ : ∃ y, y = w1.alloc (.cells (x.cs).toArray 28) := ⟨_, rfl⟩
  refine vw (.pointer (some ⟨w1.heap.size, 0, none⟩)) w3 (want_none rfl) (ex_box18 rfl (q1.e (j := 3) rfl) (by rw [hw3]; exact bxE20 _ _)) rfl q1.z (by decide) (q1.k fun _ q2 => ?_);clear q1
  have Bw3 : BB w3 w1.heap.size 28 (x.cs) := by rw [hw3]; exact BB.new _ _ _
  have bw3 : Below w1.heap.size w1 w3 := by rw [hw3]; exact (Below.refl _ _).alloc (Nat.le_refl _) _
  have zw3 : w3.heap.size = w1.heap.size + 1 := by rw [hw3]; exact World.size_alloc _ _
  clear hw3
  have d4 : Below w.heap.size w w3 := d2.trans (bw3.mono d2.size)
  refine q2.t (.int .i64 ((0 : Nat) : Int)) (ex_assign rfl rfl) fun _ q3 => ?_;clear q2
  refine wpList_nil ?_
  go_upto_region 1 with fail
  refine wp_region_lit ?_
  refine q3.t (.int .i64 (s : Int)) (ex_move rfl (q3.e (j := 1) rfl)) fun _ q4 => ?_;clear q3
  by_cases hs1 : s < 1
  · refine q4.t (.bool true) (ex_bin (Y := .int .i64 ((1 : Nat) : Int)) rfl (q4.e (j := 11) rfl) rfl (ltT20 _ _ (by omega) _)) fun _ q5 => ?_;clear q4
    refine wpList_nil ?_
    go_upto_region 2 with fail
    refine wp_cond_true (q5.e (j := 12) rfl) ?_
    go_upto_region 2 with fail
    refine wp_region_lit ?_
    refine q5.t (.int .i64 ((200 : Nat) : Int)) (ex_assign rfl rfl) fun _ q6 => ?_;clear q5
    refine wpList_nil ?_
    go_wp2
    refine bodyPost_ret (results_tmp rfl _ _ _) rfl ?_
    rw [getD_of (q6.a 10 rfl)]
    exact ⟨by unfold icR; rw [if_pos (by omega)]; rfl, d4⟩
  · refine q4.t (.bool false) (ex_bin (Y := .int .i64 ((1 : Nat) : Int)) rfl (q4.e (j := 11) rfl) rfl (ltF20 _ _ (by omega) _)) fun _ q5 => ?_;clear q4
    refine wpList_nil ?_
    go_upto_region 3 with fail
    refine wp_cond_false (q5.e (j := 12) rfl) ?_
    go_upto_region 3 with fail
    refine wp_region_lit ?_
    refine q5.t (.int .i64 (p : Int)) (ex_move rfl (q5.e (j := 2) rfl)) fun _ q6 => ?_;clear q5
    by_cases hq1 : p < 1
    · refine q6.t (.bool true) (ex_bin (Y := .int .i64 ((1 : Nat) : Int)) rfl (q6.e (j := 13) rfl) rfl (ltT20 _ _ (by omega) _)) fun _ q7 => ?_;clear q6
      refine q7.t (.bool true) (ex_move rfl (q7.e (j := 14) rfl)) fun _ q8 => ?_;clear q7
      refine vl ((true && (true == false))) (undef) (want_g rfl rfl (q8.a 15 rfl)) (fun hc => absurd hc (by decide)) rfl q8.z (by decide) (q8.k fun _ q9 => ?_);clear q8
      refine vl ((true && (true == false))) (undef) (want_g rfl rfl (q9.a 15 rfl)) (fun hc => absurd hc (by decide)) rfl q9.z (by decide) (q9.k fun _ q10 => ?_);clear q9
      refine vl ((true && (true == false))) (.bool false) (want_g rfl rfl (q10.a 15 rfl)) (fun hc => absurd hc (by decide)) rfl q10.z (by decide) (q10.k fun _ q11 => ?_);clear q10
      refine q11.t (.bool true) (ex_or (c := true) (b := true) (z := false) rfl (q11.a 15 rfl) (q11.a 18 rfl) rfl) fun _ q12 => ?_;clear q11
      refine wpList_nil ?_
      go_upto_region 4 with fail
      refine wp_cond_true (q12.e (j := 19) rfl) ?_
      go_upto_region 4 with fail
      refine wp_region_lit ?_
      refine q12.t (.int .i64 ((61 : Nat) : Int)) (ex_assign rfl rfl) fun _ q13 => ?_;clear q12
      refine wpList_nil ?_
      go_wp2
      refine bodyPost_ret (results_tmp rfl _ _ _) rfl ?_
      rw [getD_of (q13.a 10 rfl)]
      exact ⟨by unfold icR; rw [if_neg (by omega), if_pos (by omega)]; rfl, d4⟩
    · refine q6.t (.bool false) (ex_bin (Y := .int .i64 ((1 : Nat) : Int)) rfl (q6.e (j := 13) rfl) rfl (ltF20 _ _ (by omega) _)) fun _ q7 => ?_;clear q6
      refine q7.t (.bool false) (ex_move rfl (q7.e (j := 14) rfl)) fun _ q8 => ?_;clear q7
      refine vl ((true && (false == false))) (.int .i64 (p : Int)) (want_g rfl rfl (q8.a 15 rfl)) (fun hc => ex_move rfl (q8.e (j := 2) rfl)) rfl q8.z (by decide) (q8.k fun _ q9 => ?_);clear q8
      refine vl ((true && (false == false))) (.int .i64 (s : Int)) (want_g rfl rfl (q9.a 15 rfl)) (fun hc => ex_move rfl (q9.e (j := 1) rfl)) rfl q9.z (by decide) (q9.k fun _ q10 => ?_);clear q9
      by_cases hq2 : s < p
      · refine vl ((true && (false == false))) (.bool true) (want_g rfl rfl (q10.a 15 rfl)) (fun hc => ex_bin rfl (ev (q10.a 16 rfl) hc) (ev (q10.a 17 rfl) hc) (gtT20 _ _ (by omega) _)) rfl q10.z (by decide) (q10.k fun _ q11 => ?_);clear q10
        refine q11.t (.bool true) (ex_or (c := true) (b := false) (z := true) rfl (q11.a 15 rfl) (q11.a 18 rfl) rfl) fun _ q12 => ?_;clear q11
        refine wpList_nil ?_
        go_upto_region 4 with fail
        refine wp_cond_true (q12.e (j := 19) rfl) ?_
        go_upto_region 4 with fail
        refine wp_region_lit ?_
        refine q12.t (.int .i64 ((61 : Nat) : Int)) (ex_assign rfl rfl) fun _ q13 => ?_;clear q12
        refine wpList_nil ?_
        go_wp2
        refine bodyPost_ret (results_tmp rfl _ _ _) rfl ?_
        rw [getD_of (q13.a 10 rfl)]
        exact ⟨by unfold icR; rw [if_neg (by omega), if_pos (by omega)]; rfl, d4⟩
      · refine vl ((true && (false == false))) (.bool false) (want_g rfl rfl (q10.a 15 rfl)) (fun hc => ex_bin rfl (ev (q10.a 16 rfl) hc) (ev (q10.a 17 rfl) hc) (gtF20 _ _ (by omega) _)) rfl q10.z (by decide) (q10.k fun _ q11 => ?_);clear q10
        refine q11.t (.bool false) (ex_or (c := true) (b := false) (z := false) rfl (q11.a 15 rfl) (q11.a 18 rfl) rfl) fun _ q12 => ?_;clear q11
        refine wpList_nil ?_
        go_upto_region 5 with fail
        refine wp_cond_false (q12.e (j := 19) rfl) ?_
        obtain ⟨j, rfl⟩ : ∃ j : Nat, p = (j : Int) := ⟨p.toNat, by omega⟩
        obtain ⟨n, rfl⟩ : ∃ n : Nat, s = (n : Int) := ⟨s.toNat, by omega⟩
        go_upto_region 5 with fail
        refine wp_region_lit ?_
        refine q12.t (.slice a k c) (ex_move rfl (q12.e (j := 4) rfl)) fun _ q13 => ?_;clear q12
        refine q13.t (.int .i64 ((k : Nat) : Int)) (ex_lenG rfl rfl Try.underlying42 (q13.e (j := 20) rfl)) fun _ q14 => ?_;clear q13
        refine q14.t (.int .i64 ((n : Nat) : Int)) (ex_move rfl (q14.e (j := 1) rfl)) fun _ q15 => ?_;clear q14
        refine q15.t (.int .i64 ((j : Nat) : Int)) (ex_move rfl (q15.e (j := 2) rfl)) fun _ q16 => ?_;clear q15
        refine vcallP (want_none rfl) (ex_call rfl (by simp only [List.map_toArray, List.map_cons, List.map_nil, (q16.e (j := 22) rfl), (q16.e (j := 23) rfl), evc] <;> rfl) rfl) (long20 j n w3 (by omega) (by omega) (by omega)) rfl q16.z (by decide) ?_
        rintro e w5 ⟨rfl, hw5⟩
        refine ⟨_, rfl, q16.k fun _ q17 => ?_⟩;clear q16
        have hw5 := hw5.symm
        subst hw5
        by_cases hkk : ¬ k = su j n
        · refine q17.t (.bool true) (ex_bin rfl (q17.e (j := 21) rfl) (q17.e (j := 24) rfl) (neT20 _ _ (by omega) _)) fun _ q18 => ?_;clear q17
          refine wpList_nil ?_
          go_upto_region 6 with fail
          refine wp_cond_true (q18.e (j := 25) rfl) ?_
          go_upto_region 6 with fail
          refine wp_region_lit ?_
          refine q18.t (.int .i64 ((201 : Nat) : Int)) (ex_assign rfl rfl) fun _ q19 => ?_;clear q18
          refine wpList_nil ?_
          go_wp2
          refine bodyPost_ret (results_tmp rfl _ _ _) rfl ?_
          rw [getD_of (q19.a 10 rfl)]
          exact ⟨by unfold icR; rw [if_neg (by omega), if_neg (by omega), Int.toNat_natCast, Int.toNat_natCast, hln, if_pos hkk]; rfl, d4⟩
        · refine q17.t (.bool false) (ex_bin rfl (q17.e (j := 21) rfl) (q17.e (j := 24) rfl) (neF20 _ _ (by omega) _)) fun _ q18 => ?_;clear q17
          refine wpList_nil ?_
          go_upto_region 7 with fail
          refine wp_cond_false (q18.e (j := 25) rfl) ?_
          go_upto_region 7 with fail
          have B6 : BB w3 w.heap.size 24 (g.cs) := (Bw1.later bw3)
          refine vp_start 34 (fun T v => Rp T 34 [(1, gw true (.int .i64 ((n : Nat) : Int))), (2, gw true (.int .i64 ((j : Nat) : Int))), (4, gw true (.slice a k c)), (5, gw true (.pointer (some ⟨w.heap.size, 0, none⟩))), (8, gw true (.pointer (some ⟨w1.heap.size, 0, none⟩))), (10, gw true (.int .i64 ((0 : Nat) : Int))), (12, gw true (.bool false)), (19, gw true (.bool false)), (25, gw true (.bool false))] ∧ Upd (fun k => False) w3 v) (fun (i : Nat) (T : Array Value) (v : World) => match i with | 0 => T[26]? = some (gw true (.int .i64 ((n : Nat) : Int))) | 1 => T[27]? = some (gw true (.int .i64 ((j : Nat) : Int))) | 2 => T[28]? = some (gw true (x.val20)) | 3 => T[29]? = some (gw true ((lf x).val)) | 4 => T[30]? = some (gw true (.slice a k c)) | 5 => T[31]? = some (gw true ((cl (lf x) j n P).val)) | 6 => T[32]? = some (gw true (g.val)) | 7 => T[33]? = some (gw true (.bool (!decide ((cl (lf x) j n P).v = g.v)))) | _ => True) (fun (i : Nat) (T : Array Value) (v : World) => match i with | _ => True) (fun j T k => False) (fun i => match i with | 0 => [26] | 1 => [27] | 2 => [28] | 3 => [29] | 4 => [30] | 5 => [31] | 6 => [32] | 7 => [33] | _ => []) (fun _ => []) [1, 2, 4, 5, 8, 10, 12, 19, 25] (fun i j => false) (fun i => false) (by kernel_rfl) (by kernel_rfl) q18.z ⟨((((((((((Rp.nil q18.z).cons (q18.a 25 rfl)).cons (q18.a 19 rfl)).cons (q18.a 12 rfl)).cons (q18.a 10 rfl)).cons (q18.a 8 rfl)).cons (q18.a 5 rfl)).cons (q18.a 4 rfl)).cons (q18.a 2 rfl)).cons (q18.a 1 rfl)), (Upd.refl _ _).drew20⟩ ?_ ?_ ?_ ?_ ?_ ?_
          · exact ⟨trivial, trivial, trivial, trivial, trivial, trivial, trivial, trivial, trivial⟩
          · intro j T T2 v v2 h _ hz hk hu
            exact ⟨h.1.ch hz hk, h.2.tr20 hu (fun k hk he => he.elim)⟩
          · refine ⟨?_, ?_, ?_, ?_, ?_, ?_, ?_, ?_, trivial⟩
            · exact fun j hj hu T T2 v v2 h hD hz hk hU => (hk 26 (List.mem_singleton.2 rfl)).trans h
            · exact fun j hj hu T T2 v v2 h hD hz hk hU => (hk 27 (List.mem_singleton.2 rfl)).trans h
            · exact fun j hj hu T T2 v v2 h hD hz hk hU => (hk 28 (List.mem_singleton.2 rfl)).trans h
            · exact fun j hj hu T T2 v v2 h hD hz hk hU => (hk 29 (List.mem_singleton.2 rfl)).trans h
            · exact fun j hj hu T T2 v v2 h hD hz hk hU => (hk 30 (List.mem_singleton.2 rfl)).trans h
            · exact fun j hj hu T T2 v v2 h hD hz hk hU => (hk 31 (List.mem_singleton.2 rfl)).trans h
            · exact fun j hj hu T T2 v v2 h hD hz hk hU => (hk 32 (List.mem_singleton.2 rfl)).trans h
            · exact fun j hj hu T T2 v v2 h hD hz hk hU => (hk 33 (List.mem_singleton.2 rfl)).trans h
          · refine ⟨fun _ _ _ _ _ _ _ _ _ _ _ => trivial, fun _ _ _ _ _ _ _ _ _ _ _ => trivial, fun _ _ _ _ _ _ _ _ _ _ _ => trivial, fun _ _ _ _ _ _ _ _ _ _ _ => trivial, fun _ _ _ _ _ _ _ _ _ _ _ => trivial, fun _ _ _ _ _ _ _ _ _ _ _ => trivial, fun _ _ _ _ _ _ _ _ _ _ _ => trivial, fun _ _ _ _ _ _ _ _ _ _ _ => trivial, trivial⟩
          · refine ⟨?_, ?_, ?_, ?_, ?_, ?_, ?_, ?_, trivial⟩
            · intro T df v hz hB hd hC
              have qb := hB.1
              have hU := hB.2
              exact ⟨true, want_none rfl, fun _ => .inl ⟨_, _, ex_move rfl (qb.e (j := 1) rfl), Upd.refl _ _, fun h => absurd h (by decide), fun T2 N => N.s 26 rfl⟩, fun h => absurd h (by decide), fun h => absurd h (by decide)⟩
            · intro T df v hz hB hd hC
              have qb := hB.1
              have hU := hB.2
              exact ⟨true, want_none rfl, fun _ => .inl ⟨_, _, ex_move rfl (qb.e (j := 2) rfl), Upd.refl _ _, fun h => absurd h (by decide), fun T2 N => N.s 27 rfl⟩, fun h => absurd h (by decide), fun h => absurd h (by decide)⟩
            · intro T df v hz hB hd hC
              have qb := hB.1
              have hU := hB.2
              exact ⟨true, want_none rfl, fun _ => .inl ⟨_, _, ex_ld rfl (qb.e (j := 8) rfl) (Bw3.upd hU (show ¬ False from id)).ldE20, Upd.refl _ _, fun h => absurd h (by decide), fun T2 N => N.s 28 rfl⟩, fun h => absurd h (by decide), fun h => absurd h (by decide)⟩
            · intro T df v hz hB hd hC
              have qb := hB.1
              have hU := hB.2
              have p2 : T[28]? = some (gw true (x.val20)) := hd 2 (by kernel_rfl) (by kernel_rfl)
              refine ⟨true, want_none rfl, fun hc => .inr (.inr ⟨_, _, _, ex_call rfl (by simp only [List.map_toArray, List.map_cons, List.map_nil, (ev p2 rfl), evc] <;> rfl) rfl, rleaf20 x v (by omega), ?_⟩), fun _ => rfl, fun h => absurd h (by decide)⟩
              rintro e w9 ⟨rfl, b9⟩
              exact ⟨_, rfl, Upd.of_below b9, fun h => absurd h (by decide), fun T2 N => N.s 29 rfl⟩
            · intro T df v hz hB hd hC
              have qb := hB.1
              have hU := hB.2
              exact ⟨true, want_none rfl, fun _ => .inl ⟨_, _, ex_move rfl (qb.e (j := 4) rfl), Upd.refl _ _, fun h => absurd h (by decide), fun T2 N => N.s 30 rfl⟩, fun h => absurd h (by decide), fun h => absurd h (by decide)⟩
            · intro T df v hz hB hd hC
              have qb := hB.1
              have hU := hB.2
              have D : Below w.heap.size w v := d4.trans (hU.below d4.size (fun k hk => hk.elim))
              have p0 : T[26]? = some (gw true (.int .i64 ((n : Nat) : Int))) := hd 0 (by kernel_rfl) (by kernel_rfl)
              have p1 : T[27]? = some (gw true (.int .i64 ((j : Nat) : Int))) := hd 1 (by kernel_rfl) (by kernel_rfl)
              have p3 : T[29]? = some (gw true ((lf x).val)) := hd 3 (by kernel_rfl) (by kernel_rfl)
              have p4 : T[30]? = some (gw true (.slice a k c)) := hd 4 (by kernel_rfl) (by kernel_rfl)
              refine ⟨true, want_none rfl, fun hc => .inr (.inr ⟨_, _, _, ex_call rfl (by simp only [List.map_toArray, List.map_cons, List.map_nil, (ev p0 rfl), (ev p1 rfl), (ev p3 rfl), (ev p4 rfl), evc] <;> rfl) rfl, up20 (lf x) j n P a k c v (h.later D) (Decidable.not_not.1 hkk) (by omega) (by omega) (by omega), ?_⟩), fun _ => rfl, fun h => absurd h (by decide)⟩
              rintro e w9 ⟨rfl, b9⟩
              exact ⟨_, rfl, Upd.of_below b9, fun h => absurd h (by decide), fun T2 N => N.s 31 rfl⟩
            · intro T df v hz hB hd hC
              have qb := hB.1
              have hU := hB.2
              exact ⟨true, want_none rfl, fun _ => .inl ⟨_, _, ex_ld rfl (qb.e (j := 5) rfl) (B6.upd hU (show ¬ False from id)).ldH, Upd.refl _ _, fun h => absurd h (by decide), fun T2 N => N.s 32 rfl⟩, fun h => absurd h (by decide), fun h => absurd h (by decide)⟩
            · intro T df v hz hB hd hC
              have qb := hB.1
              have hU := hB.2
              have p5 : T[31]? = some (gw true ((cl (lf x) j n P).val)) := hd 5 (by kernel_rfl) (by kernel_rfl)
              have p6 : T[32]? = some (gw true (g.val)) := hd 6 (by kernel_rfl) (by kernel_rfl)
              exact ⟨true, want_none rfl, fun _ => .inl ⟨_, _, ex_bin rfl (ev p5 rfl) (ev p6 rfl) (neHZ _ _ _ _ _), Upd.refl _ _, fun h => absurd h (by decide), fun T2 N => N.s 33 rfl⟩, fun h => absurd h (by decide), fun h => absurd h (by decide)⟩
          intro T v7 hz hB hp ha
          have qb := hB.1
          have U8 := hB.2
          clear hB hz
          clear q18
          have d9 : Below w.heap.size w v7 := d4.trans (U8.below (Nat.le_trans d4.size (Nat.le_refl _)) (fun k hk => hk.elim))
          have zv7 := U8.size
          have p7 : T[33]? = some (gw true (.bool (!decide ((cl (lf x) j n P).v = g.v)))) := hp 7 _ rfl (fun k => rfl)
          have q19 := (qb.cons p7)
          clear hp ha qb p7
          by_cases hc33 : (cl (lf x) j n P).v = g.v
          · rw [decide_eq_true hc33] at q19
            have hc33h := hide hc33
            clear hc33
            go_upto_region 9 with fail
            refine wp_cond_false (q19.e (j := 33) rfl) ?_
            go_upto_region 9 with fail
            refine wp_region_lit ?_
            refine q19.t (.int .i64 ((0 : Nat) : Int)) (ex_assign rfl rfl) fun _ q20 => ?_;clear q19
            refine wpList_nil ?_
            go_wp2
            refine bodyPost_ret (results_tmp rfl _ _ _) rfl ?_
            rw [getD_of (q20.a 10 rfl)]
            exact ⟨by unfold icR; rw [if_neg (by omega), if_neg (by omega), Int.toNat_natCast, Int.toNat_natCast, hln, if_neg hkk, if_pos hc33h.out]; rfl, d9⟩
          · rw [decide_eq_false hc33] at q19
            have hc33h := hide hc33
            clear hc33
            go_upto_region 8 with fail
            refine wp_cond_true (q19.e (j := 33) rfl) ?_
            go_upto_region 8 with fail
            refine wp_region_lit ?_
            refine q19.t (.int .i64 ((202 : Nat) : Int)) (ex_assign rfl rfl) fun _ q20 => ?_;clear q19
            refine wpList_nil ?_
            go_wp2
            refine bodyPost_ret (results_tmp rfl _ _ _) rfl ?_
            rw [getD_of (q20.a 10 rfl)]
            exact ⟨by unfold icR; rw [if_neg (by omega), if_neg (by omega), Int.toNat_natCast, Int.toNat_natCast, hln, if_neg hkk, if_neg hc33h.out]; rfl, d9⟩
set_option maxHeartbeats 2000000 in
theorem inc_law20 (g : Hs) (s p : Int) (x : En) (P : List Hs) (a : Option Addr) (k c : Nat) (w : World) (h : SlY yH w a k c P) (hk : k ≤ 4398046511000) (hs : s ≤ 9223372036854775807) (hv : x.o.v.size ≤ 140737488351232) :
    Calls Try.prog 5 #[g.val, .int .i64 s, .int .i64 p, x.val20, .slice a k c] w fun e w' => e = .returned (.bool true) ∧ Below w.heap.size w w' := by
  have hln := h.len
  go_enter Try.func5, Try.ntmps5
  go_upto_region 0 with fail
  refine wp_region_lit ?_
  refine vl_gen (fun T => Rp T 35 [(4, gw true (.slice a k c)), (3, gw true (x.val20)), (2, gw true (.int .i64 (p : Int))), (1, gw true (.int .i64 (s : Int))), (0, gw true (g.val))]) ((((((Rp.nil rfl).cons rfl).cons rfl).cons rfl).cons rfl).cons rfl) (fun Z0 q0 => ?_)
  obtain ⟨w1, hw1⟩ : ∃ y, y = w.alloc (.cells (g.cs).toArray 24) := ⟨_, rfl⟩
  refine vw (.pointer (some ⟨w.heap.size, 0, none⟩)) w1 (want_none rfl) (ex_box18 rfl (q0.e (j := 0) rfl) (by rw [hw1]; exact bxH20 _ _)) rfl q0.z (by decide) (q0.k fun _ q1 => ?_);clear q0
  have Bw1 : BB w1 w.heap.size 24 (g.cs) := by rw [hw1]; exact BB.new _ _ _
  have bw1 : Below w.heap.size w w1 := by rw [hw1]; exact (Below.refl _ _).alloc (Nat.le_refl _) _
  have zw1 : w1.heap.size = w.heap.size + 1 := by rw [hw1]; exact World.size_alloc _ _
  clear hw1
  have d2 : Below w.heap.size w w1 := bw1
  obtain ⟨w3, hw3⟩ : ∃ y, y = w1.alloc (.cells (x.cs).toArray 28) := ⟨_, rfl⟩
  refine vw (.pointer (some ⟨w1.heap.size, 0, none⟩)) w3 (want_none rfl) (ex_box18 rfl (q1.e (j := 3) rfl) (by rw [hw3]; exact bxE20 _ _)) rfl q1.z (by decide) (q1.k fun _ q2 => ?_);clear q1
  have Bw3 : BB w3 w1.heap.size 28 (x.cs) := by rw [hw3]; exact BB.new _ _ _
  have bw3 : Below w1.heap.size w1 w3 := by rw [hw3]; exact (Below.refl _ _).alloc (Nat.le_refl _) _
  have zw3 : w3.heap.size = w1.heap.size + 1 := by rw [hw3]; exact World.size_alloc _ _
  clear hw3
  have d4 : Below w.heap.size w w3 := d2.trans (bw3.mono d2.size)
  refine q2.t (.bool false) (ex_assign rfl rfl) fun _ q3 => ?_;clear q2
  refine wpList_nil ?_
  go_upto_region 1 with fail
  refine wp_region_lit ?_
  refine q3.t (.slice a k c) (ex_move rfl (q3.e (j := 4) rfl)) fun _ q4 => ?_;clear q3
  refine vcallP (want_none rfl) (ex_call rfl (by simp only [List.map_toArray, List.map_cons, List.map_nil, (q4.e (j := 12) rfl), evc] <;> rfl) rfl) (lent20 P a k c w3 (h.later d4) (by omega)) rfl q4.z (by decide) ?_
  rintro e w5 ⟨q, o, c3, rfl, sO, bw5⟩
  refine ⟨_, rfl, q4.k fun _ q5 => ?_⟩;clear q4
  have zw5 := bw5.size
  have d6 : Below w.heap.size w w5 := d4.trans (bw5.mono d4.size)
  refine q5.t (.slice (some ⟨q, o, none⟩) k c3) (ex_assign rfl (q5.e (j := 13) rfl)) fun _ q6 => ?_;clear q5
  refine wpList_nil ?_
  go_upto_region 2 with fail
  have B7 : BB w5 w.heap.size 24 (g.cs) := ((Bw1.later bw3).later bw5)
  have B8 : BB w5 w1.heap.size 28 (x.cs) := (Bw3.later bw5)
  refine vp_start 35 (fun T v => Rp T 35 [(1, gw true (.int .i64 (s : Int))), (2, gw true (.int .i64 (p : Int))), (4, gw true (.slice a k c)), (5, gw true (.pointer (some ⟨w.heap.size, 0, none⟩))), (8, gw true (.pointer (some ⟨w1.heap.size, 0, none⟩))), (11, gw true (.slice (some ⟨q, o, none⟩) k c3))] ∧ Upd (fun k => False) w5 v) (fun (i : Nat) (T : Array Value) (v : World) => match i with | 0 => T[14]? = some (gw true (g.val)) | 1 => T[15]? = some (gw true (.int .i64 (s : Int))) | 2 => T[16]? = some (gw true (.int .i64 (p : Int))) | 3 => T[17]? = some (gw true (x.val20)) | 4 => T[18]? = some (gw true (.slice (some ⟨q, o, none⟩) k c3)) | 5 => T[19]? = some (gw true (.int .i64 (icR g s p x P : Int))) | 6 => T[20]? = some (gw true (g.val)) | 7 => T[21]? = some (gw true (.int .i64 (s : Int))) | 8 => T[22]? = some (gw true (.int .i64 (p : Int))) | 9 => T[23]? = some (gw true (x.val20)) | 10 => T[24]? = some (gw true (.slice a k c)) | 11 => T[25]? = some (gw true (.int .i64 (icR g s p x P : Int))) | 12 => T[26]? = some (gw true (.bool true)) | 13 => T[27]? = some (gw true (.bool true)) | 14 => T[28]? = some (gw (true && (true == true)) (.slice (some ⟨q, o, none⟩) k c3)) | 15 => T[29]? = some (gw (true && (true == true)) (.slice a k c)) | 16 => T[30]? = some (gw (true && (true == true)) (.bool true)) | 17 => T[31]? = some (gw true (.bool true)) | 18 => T[32]? = some (gw true (.bool true)) | 19 => T[33]? = some (gw (true && (true == true)) (.bool true)) | 20 => T[34]? = some (gw true (.bool true)) | 21 => T[10]? = some (gw true (.bool true)) | _ => True) (fun (i : Nat) (T : Array Value) (v : World) => match i with | _ => True) (fun j T k => False) (fun i => match i with | 0 => [14] | 1 => [15] | 2 => [16] | 3 => [17] | 4 => [18] | 5 => [19] | 6 => [20] | 7 => [21] | 8 => [22] | 9 => [23] | 10 => [24] | 11 => [25] | 12 => [26] | 13 => [27] | 14 => [28] | 15 => [29] | 16 => [30] | 17 => [31] | 18 => [32] | 19 => [33] | 20 => [34] | 21 => [10] | _ => []) (fun _ => []) [1, 2, 4, 5, 8, 11] (fun i j => false) (fun i => false) (by kernel_rfl) (by kernel_rfl) q6.z ⟨(((((((Rp.nil q6.z).cons (q6.a 11 rfl)).cons (q6.a 8 rfl)).cons (q6.a 5 rfl)).cons (q6.a 4 rfl)).cons (q6.a 2 rfl)).cons (q6.a 1 rfl)), (Upd.refl _ _).drew20⟩ ?_ ?_ ?_ ?_ ?_ ?_
  · exact ⟨trivial, trivial, trivial, trivial, trivial, trivial, trivial, trivial, trivial, trivial, trivial, trivial, trivial, trivial, trivial, trivial, trivial, trivial, trivial, trivial, trivial, trivial, trivial⟩
  · intro j T T2 v v2 h _ hz hk hu
    exact ⟨h.1.ch hz hk, h.2.tr20 hu (fun k hk he => he.elim)⟩
  · refine ⟨?_, ?_, ?_, ?_, ?_, ?_, ?_, ?_, ?_, ?_, ?_, ?_, ?_, ?_, ?_, ?_, ?_, ?_, ?_, ?_, ?_, ?_, trivial⟩
    · exact fun j hj hu T T2 v v2 h hD hz hk hU => (hk 14 (List.mem_singleton.2 rfl)).trans h
    · exact fun j hj hu T T2 v v2 h hD hz hk hU => (hk 15 (List.mem_singleton.2 rfl)).trans h
    · exact fun j hj hu T T2 v v2 h hD hz hk hU => (hk 16 (List.mem_singleton.2 rfl)).trans h
    · exact fun j hj hu T T2 v v2 h hD hz hk hU => (hk 17 (List.mem_singleton.2 rfl)).trans h
    · exact fun j hj hu T T2 v v2 h hD hz hk hU => (hk 18 (List.mem_singleton.2 rfl)).trans h
    · exact fun j hj hu T T2 v v2 h hD hz hk hU => (hk 19 (List.mem_singleton.2 rfl)).trans h
    · exact fun j hj hu T T2 v v2 h hD hz hk hU => (hk 20 (List.mem_singleton.2 rfl)).trans h
    · exact fun j hj hu T T2 v v2 h hD hz hk hU => (hk 21 (List.mem_singleton.2 rfl)).trans h
    · exact fun j hj hu T T2 v v2 h hD hz hk hU => (hk 22 (List.mem_singleton.2 rfl)).trans h
    · exact fun j hj hu T T2 v v2 h hD hz hk hU => (hk 23 (List.mem_singleton.2 rfl)).trans h
    · exact fun j hj hu T T2 v v2 h hD hz hk hU => (hk 24 (List.mem_singleton.2 rfl)).trans h
    · exact fun j hj hu T T2 v v2 h hD hz hk hU => (hk 25 (List.mem_singleton.2 rfl)).trans h
    · exact fun j hj hu T T2 v v2 h hD hz hk hU => (hk 26 (List.mem_singleton.2 rfl)).trans h
    · exact fun j hj hu T T2 v v2 h hD hz hk hU => (hk 27 (List.mem_singleton.2 rfl)).trans h
    · exact fun j hj hu T T2 v v2 h hD hz hk hU => (hk 28 (List.mem_singleton.2 rfl)).trans h
    · exact fun j hj hu T T2 v v2 h hD hz hk hU => (hk 29 (List.mem_singleton.2 rfl)).trans h
    · exact fun j hj hu T T2 v v2 h hD hz hk hU => (hk 30 (List.mem_singleton.2 rfl)).trans h
    · exact fun j hj hu T T2 v v2 h hD hz hk hU => (hk 31 (List.mem_singleton.2 rfl)).trans h
    · exact fun j hj hu T T2 v v2 h hD hz hk hU => (hk 32 (List.mem_singleton.2 rfl)).trans h
    · exact fun j hj hu T T2 v v2 h hD hz hk hU => (hk 33 (List.mem_singleton.2 rfl)).trans h
    · exact fun j hj hu T T2 v v2 h hD hz hk hU => (hk 34 (List.mem_singleton.2 rfl)).trans h
    · exact fun j hj hu T T2 v v2 h hD hz hk hU => (hk 10 (List.mem_singleton.2 rfl)).trans h
  · refine ⟨fun _ _ _ _ _ _ _ _ _ _ _ => trivial, fun _ _ _ _ _ _ _ _ _ _ _ => trivial, fun _ _ _ _ _ _ _ _ _ _ _ => trivial, fun _ _ _ _ _ _ _ _ _ _ _ => trivial, fun _ _ _ _ _ _ _ _ _ _ _ => trivial, fun _ _ _ _ _ _ _ _ _ _ _ => trivial, fun _ _ _ _ _ _ _ _ _ _ _ => trivial, fun _ _ _ _ _ _ _ _ _ _ _ => trivial, fun _ _ _ _ _ _ _ _ _ _ _ => trivial, fun _ _ _ _ _ _ _ _ _ _ _ => trivial, fun _ _ _ _ _ _ _ _ _ _ _ => trivial, fun _ _ _ _ _ _ _ _ _ _ _ => trivial, fun _ _ _ _ _ _ _ _ _ _ _ => trivial, fun _ _ _ _ _ _ _ _ _ _ _ => trivial, fun _ _ _ _ _ _ _ _ _ _ _ => trivial, fun _ _ _ _ _ _ _ _ _ _ _ => trivial, fun _ _ _ _ _ _ _ _ _ _ _ => trivial, fun _ _ _ _ _ _ _ _ _ _ _ => trivial, fun _ _ _ _ _ _ _ _ _ _ _ => trivial, fun _ _ _ _ _ _ _ _ _ _ _ => trivial, fun _ _ _ _ _ _ _ _ _ _ _ => trivial, fun _ _ _ _ _ _ _ _ _ _ _ => trivial, trivial⟩
  · refine ⟨?_, ?_, ?_, ?_, ?_, ?_, ?_, ?_, ?_, ?_, ?_, ?_, ?_, ?_, ?_, ?_, ?_, ?_, ?_, ?_, ?_, ?_, trivial⟩
    · intro T df v hz hB hd hC
      have qb := hB.1
      have hU := hB.2
      exact ⟨true, want_none rfl, fun _ => .inl ⟨_, _, ex_ld rfl (qb.e (j := 5) rfl) (B7.upd hU (show ¬ False from id)).ldH, Upd.refl _ _, fun h => absurd h (by decide), fun T2 N => N.s 14 rfl⟩, fun h => absurd h (by decide), fun h => absurd h (by decide)⟩
    · intro T df v hz hB hd hC
      have qb := hB.1
      have hU := hB.2
      exact ⟨true, want_none rfl, fun _ => .inl ⟨_, _, ex_move rfl (qb.e (j := 1) rfl), Upd.refl _ _, fun h => absurd h (by decide), fun T2 N => N.s 15 rfl⟩, fun h => absurd h (by decide), fun h => absurd h (by decide)⟩
    · intro T df v hz hB hd hC
      have qb := hB.1
      have hU := hB.2
      exact ⟨true, want_none rfl, fun _ => .inl ⟨_, _, ex_move rfl (qb.e (j := 2) rfl), Upd.refl _ _, fun h => absurd h (by decide), fun T2 N => N.s 16 rfl⟩, fun h => absurd h (by decide), fun h => absurd h (by decide)⟩
    · intro T df v hz hB hd hC
      have qb := hB.1
      have hU := hB.2
      exact ⟨true, want_none rfl, fun _ => .inl ⟨_, _, ex_ld rfl (qb.e (j := 8) rfl) (B8.upd hU (show ¬ False from id)).ldE20, Upd.refl _ _, fun h => absurd h (by decide), fun T2 N => N.s 17 rfl⟩, fun h => absurd h (by decide), fun h => absurd h (by decide)⟩
    · intro T df v hz hB hd hC
      have qb := hB.1
      have hU := hB.2
      exact ⟨true, want_none rfl, fun _ => .inl ⟨_, _, ex_move rfl (qb.e (j := 11) rfl), Upd.refl _ _, fun h => absurd h (by decide), fun T2 N => N.s 18 rfl⟩, fun h => absurd h (by decide), fun h => absurd h (by decide)⟩
    · intro T df v hz hB hd hC
      have qb := hB.1
      have hU := hB.2
      have HB : Below w5.heap.size w5 v := hU.below (Nat.le_refl _) (fun k hk => hk.elim)
      have p0 : T[14]? = some (gw true (g.val)) := hd 0 (by kernel_rfl) (by kernel_rfl)
      have p1 : T[15]? = some (gw true (.int .i64 (s : Int))) := hd 1 (by kernel_rfl) (by kernel_rfl)
      have p2 : T[16]? = some (gw true (.int .i64 (p : Int))) := hd 2 (by kernel_rfl) (by kernel_rfl)
      have p3 : T[17]? = some (gw true (x.val20)) := hd 3 (by kernel_rfl) (by kernel_rfl)
      have p4 : T[18]? = some (gw true (.slice (some ⟨q, o, none⟩) k c3)) := hd 4 (by kernel_rfl) (by kernel_rfl)
      refine ⟨true, want_none rfl, fun hc => .inr (.inr ⟨_, _, _, ex_call rfl (by simp only [List.map_toArray, List.map_cons, List.map_nil, (ev p0 rfl), (ev p1 rfl), (ev p2 rfl), (ev p3 rfl), (ev p4 rfl), evc] <;> rfl) rfl, included20 g s p x P _ k c3 v (own20 (sO.later HB) hln) (by omega) (by omega), ?_⟩), fun _ => rfl, fun h => absurd h (by decide)⟩
      rintro e w9 ⟨rfl, b9⟩
      exact ⟨_, rfl, Upd.of_below b9, fun h => absurd h (by decide), fun T2 N => N.s 19 rfl⟩
    · intro T df v hz hB hd hC
      have qb := hB.1
      have hU := hB.2
      exact ⟨true, want_none rfl, fun _ => .inl ⟨_, _, ex_ld rfl (qb.e (j := 5) rfl) (B7.upd hU (show ¬ False from id)).ldH, Upd.refl _ _, fun h => absurd h (by decide), fun T2 N => N.s 20 rfl⟩, fun h => absurd h (by decide), fun h => absurd h (by decide)⟩
    · intro T df v hz hB hd hC
      have qb := hB.1
      have hU := hB.2
      exact ⟨true, want_none rfl, fun _ => .inl ⟨_, _, ex_move rfl (qb.e (j := 1) rfl), Upd.refl _ _, fun h => absurd h (by decide), fun T2 N => N.s 21 rfl⟩, fun h => absurd h (by decide), fun h => absurd h (by decide)⟩
    · intro T df v hz hB hd hC
      have qb := hB.1
      have hU := hB.2
      exact ⟨true, want_none rfl, fun _ => .inl ⟨_, _, ex_move rfl (qb.e (j := 2) rfl), Upd.refl _ _, fun h => absurd h (by decide), fun T2 N => N.s 22 rfl⟩, fun h => absurd h (by decide), fun h => absurd h (by decide)⟩
    · intro T df v hz hB hd hC
      have qb := hB.1
      have hU := hB.2
      exact ⟨true, want_none rfl, fun _ => .inl ⟨_, _, ex_ld rfl (qb.e (j := 8) rfl) (B8.upd hU (show ¬ False from id)).ldE20, Upd.refl _ _, fun h => absurd h (by decide), fun T2 N => N.s 23 rfl⟩, fun h => absurd h (by decide), fun h => absurd h (by decide)⟩
    · intro T df v hz hB hd hC
      have qb := hB.1
      have hU := hB.2
      exact ⟨true, want_none rfl, fun _ => .inl ⟨_, _, ex_move rfl (qb.e (j := 4) rfl), Upd.refl _ _, fun h => absurd h (by decide), fun T2 N => N.s 24 rfl⟩, fun h => absurd h (by decide), fun h => absurd h (by decide)⟩
    · intro T df v hz hB hd hC
      have qb := hB.1
      have hU := hB.2
      have D : Below w.heap.size w v := d6.trans (hU.below d6.size (fun k hk => hk.elim))
      have p6 : T[20]? = some (gw true (g.val)) := hd 6 (by kernel_rfl) (by kernel_rfl)
      have p7 : T[21]? = some (gw true (.int .i64 (s : Int))) := hd 7 (by kernel_rfl) (by kernel_rfl)
      have p8 : T[22]? = some (gw true (.int .i64 (p : Int))) := hd 8 (by kernel_rfl) (by kernel_rfl)
      have p9 : T[23]? = some (gw true (x.val20)) := hd 9 (by kernel_rfl) (by kernel_rfl)
      have p10 : T[24]? = some (gw true (.slice a k c)) := hd 10 (by kernel_rfl) (by kernel_rfl)
      refine ⟨true, want_none rfl, fun hc => .inr (.inr ⟨_, _, _, ex_call rfl (by simp only [List.map_toArray, List.map_cons, List.map_nil, (ev p6 rfl), (ev p7 rfl), (ev p8 rfl), (ev p9 rfl), (ev p10 rfl), evc] <;> rfl) rfl, rincluded20 g s p x P a k c v (h.later D) (by omega) (by omega), ?_⟩), fun _ => rfl, fun h => absurd h (by decide)⟩
      rintro e w9 ⟨rfl, b9⟩
      exact ⟨_, rfl, Upd.of_below b9, fun h => absurd h (by decide), fun T2 N => N.s 25 rfl⟩
    · intro T df v hz hB hd hC
      have qb := hB.1
      have hU := hB.2
      have p5 : T[19]? = some (gw true (.int .i64 (icR g s p x P : Int))) := hd 5 (by kernel_rfl) (by kernel_rfl)
      have p11 : T[25]? = some (gw true (.int .i64 (icR g s p x P : Int))) := hd 11 (by kernel_rfl) (by kernel_rfl)
      exact ⟨true, want_none rfl, fun _ => .inl ⟨_, _, ex_bin rfl (ev p5 rfl) (ev p11 rfl) (eqT20 _ _ (by omega) _), Upd.refl _ _, fun h => absurd h (by decide), fun T2 N => N.s 26 rfl⟩, fun h => absurd h (by decide), fun h => absurd h (by decide)⟩
    · intro T df v hz hB hd hC
      have qb := hB.1
      have hU := hB.2
      have p12 : T[26]? = some (gw true (.bool true)) := hd 12 (by kernel_rfl) (by kernel_rfl)
      exact ⟨true, want_none rfl, fun _ => .inl ⟨_, _, ex_move rfl (ev p12 rfl), Upd.refl _ _, fun h => absurd h (by decide), fun T2 N => N.s 27 rfl⟩, fun h => absurd h (by decide), fun h => absurd h (by decide)⟩
    · intro T df v hz hB hd hC
      have qb := hB.1
      have hU := hB.2
      have p13 : T[27]? = some (gw true (.bool true)) := hd 13 (by kernel_rfl) (by kernel_rfl)
      exact ⟨(true && (true == true)), want_g rfl rfl p13, fun hc => .inl ⟨_, _, ex_move rfl (qb.e (j := 11) rfl), Upd.refl _ _, fun h => absurd h (by decide), fun T2 N => by rw [hc]; exact N.s 28 rfl⟩, fun _ => rfl, fun hc T2 N => by rw [hc]; exact N.s 28 rfl⟩
    · intro T df v hz hB hd hC
      have qb := hB.1
      have hU := hB.2
      have p13 : T[27]? = some (gw true (.bool true)) := hd 13 (by kernel_rfl) (by kernel_rfl)
      exact ⟨(true && (true == true)), want_g rfl rfl p13, fun hc => .inl ⟨_, _, ex_move rfl (qb.e (j := 4) rfl), Upd.refl _ _, fun h => absurd h (by decide), fun T2 N => by rw [hc]; exact N.s 29 rfl⟩, fun _ => rfl, fun hc T2 N => by rw [hc]; exact N.s 29 rfl⟩
    · intro T df v hz hB hd hC
      have qb := hB.1
      have hU := hB.2
      have D : Below w.heap.size w v := d6.trans (hU.below d6.size (fun k hk => hk.elim))
      have HB : Below w5.heap.size w5 v := hU.below (Nat.le_refl _) (fun k hk => hk.elim)
      have p13 : T[27]? = some (gw true (.bool true)) := hd 13 (by kernel_rfl) (by kernel_rfl)
      have p14 : T[28]? = some (gw (true && (true == true)) (.slice (some ⟨q, o, none⟩) k c3)) := hd 14 (by kernel_rfl) (by kernel_rfl)
      have p15 : T[29]? = some (gw (true && (true == true)) (.slice a k c)) := hd 15 (by kernel_rfl) (by kernel_rfl)
      refine ⟨(true && (true == true)), want_g rfl rfl p13, fun hc => .inr (.inr ⟨_, _, _, ex_call rfl (by simp only [List.map_toArray, List.map_cons, List.map_nil, (ev p14 hc), (ev p15 hc), evc] <;> rfl) rfl, kept20 P q o c3 a k c v (sO.later HB) (h.later D) (by omega), ?_⟩), fun _ => rfl, fun hc T2 N => by rw [hc]; exact N.s 30 rfl⟩
      rintro e w9 ⟨rfl, b9⟩
      exact ⟨_, rfl, Upd.of_below b9, fun h => absurd h (by decide), fun T2 N => by rw [hc]; exact N.s 30 rfl⟩
    · intro T df v hz hB hd hC
      have qb := hB.1
      have hU := hB.2
      have p13 : T[27]? = some (gw true (.bool true)) := hd 13 (by kernel_rfl) (by kernel_rfl)
      have p16 : T[30]? = some (gw (true && (true == true)) (.bool true)) := hd 16 (by kernel_rfl) (by kernel_rfl)
      exact ⟨true, want_none rfl, fun _ => .inl ⟨_, _, ex_and (c := true) (b := true) (z := true) rfl p13 p16 rfl, Upd.refl _ _, fun h => absurd h (by decide), fun T2 N => N.s 31 rfl⟩, fun h => absurd h (by decide), fun h => absurd h (by decide)⟩
    · intro T df v hz hB hd hC
      have qb := hB.1
      have hU := hB.2
      have p17 : T[31]? = some (gw true (.bool true)) := hd 17 (by kernel_rfl) (by kernel_rfl)
      exact ⟨true, want_none rfl, fun _ => .inl ⟨_, _, ex_move rfl (ev p17 rfl), Upd.refl _ _, fun h => absurd h (by decide), fun T2 N => N.s 32 rfl⟩, fun h => absurd h (by decide), fun h => absurd h (by decide)⟩
    · intro T df v hz hB hd hC
      have qb := hB.1
      have hU := hB.2
      have p18 : T[32]? = some (gw true (.bool true)) := hd 18 (by kernel_rfl) (by kernel_rfl)
      refine ⟨(true && (true == true)), want_g rfl rfl p18, fun hc => .inr (.inr ⟨_, _, _, ex_call (args := #[]) rfl (by simp) rfl, works20 v, ?_⟩), fun _ => rfl, fun hc T2 N => by rw [hc]; exact N.s 33 rfl⟩
      rintro e w9 ⟨rfl, b9⟩
      exact ⟨_, rfl, Upd.of_below b9, fun h => absurd h (by decide), fun T2 N => by rw [hc]; exact N.s 33 rfl⟩
    · intro T df v hz hB hd hC
      have qb := hB.1
      have hU := hB.2
      have p18 : T[32]? = some (gw true (.bool true)) := hd 18 (by kernel_rfl) (by kernel_rfl)
      have p19 : T[33]? = some (gw (true && (true == true)) (.bool true)) := hd 19 (by kernel_rfl) (by kernel_rfl)
      exact ⟨true, want_none rfl, fun _ => .inl ⟨_, _, ex_and (c := true) (b := true) (z := true) rfl p18 p19 rfl, Upd.refl _ _, fun h => absurd h (by decide), fun T2 N => N.s 34 rfl⟩, fun h => absurd h (by decide), fun h => absurd h (by decide)⟩
    · intro T df v hz hB hd hC
      have qb := hB.1
      have hU := hB.2
      have p20 : T[34]? = some (gw true (.bool true)) := hd 20 (by kernel_rfl) (by kernel_rfl)
      exact ⟨true, want_none rfl, fun _ => .inl ⟨_, _, ex_assign rfl (ev p20 rfl), Upd.refl _ _, fun h => absurd h (by decide), fun T2 N => N.s 10 rfl⟩, fun h => absurd h (by decide), fun h => absurd h (by decide)⟩
  intro T v9 hz hB hp ha
  have qb := hB.1
  have U10 := hB.2
  clear hB hz
  clear q6
  have d11 : Below w.heap.size w v9 := d6.trans (U10.below (Nat.le_trans d6.size (Nat.le_refl _)) (fun k hk => hk.elim))
  have zv9 := U10.size
  have p21 : T[10]? = some (gw true (.bool true)) := hp 21 _ rfl (fun k => rfl)
  have q7 := (qb.cons p21)
  clear hp ha qb p21
  go_wp2
  refine bodyPost_ret (results_tmp rfl _ _ _) rfl ?_
  rw [getD_of (q7.a 10 rfl)]
  exact ⟨rfl, d11⟩
end Go.Proofs.Ytfafhlahbhopaaa
