import Derived.Test.YtomiifnhcojilaaDoorRows
import Derived.Deep.SlicePairs
import Derived.ChangeOld
import Derived.OpenShut
import Derived.MakeChecks
import Derived.Stop.LaidErr
import Derived.Lib.LaidTab
import Derived.ProofKit
import Derived.JoinedCond
import Derived.Handed
import Derived.LaidLaws
import Derived.Below
import Derived.Test.YtomiifnhcojilaaDoorG11
set_option maxRecDepth 100000
set_option linter.unusedVariables false
set_option linter.unusedSimpArgs false
namespace Go.Proofs.YtomiifnhcojilaaDoor
open Go.RowKit Go.Maps
open Classical
structure Ow where
  k : Int
  x : En
  A : Int
  B : Int
def Ow.cs (o : Ow) : List Value := ocs o.k o.x o.A o.B
def yW : Lay Ow := ⟨31, 22, 8, 72, Ow.cs, ⟨0, yE.z, 0, 0⟩⟩
theorem kW : yW.Ok := ⟨by decide, fun o => rfl, fun o u h => by
    simp [yW, Ow.cs, ocs, En.cs] at h
    rcases h with rfl | rfl | rfl | rfl | rfl | rfl | rfl | rfl <;> rfl, Tryd.underlying22, ⟨.agg #[.int .i64 0, .int .i64 0, .int .i64 0, .int .i64 0, .int .i64 0, .string ByteArray.empty, .int .i64 0, .int .i64 0], by kernel_rfl, rfl⟩⟩
theorem ixW20 (q o n c j : Nat) (hj : j < n) (w : World) : (Instr.indexAt 22 (.slice (some ⟨q, o, none⟩) n c) (.int .i64 (j : Int))).run Tryd.prog w = .ok (.pointer (some ⟨q, o + j * 8, none⟩)) w := by
  have h1 : (j : Int) < (n : Int) := by omega
  go_simp
theorem faW0 (q o : Nat) (w : World) : (Instr.fieldAt 31 (.pointer (some ⟨q, o, none⟩)) 0).run Tryd.prog w = .ok (.pointer (some ⟨q, o, none⟩)) w := by go_simp
theorem faW1 (q o : Nat) (w : World) : (Instr.fieldAt 31 (.pointer (some ⟨q, o, none⟩)) 1).run Tryd.prog w = .ok (.pointer (some ⟨q, o + 1, none⟩)) w := by go_simp
theorem ldW {w : World} {q o : Nat} {l : List Ow} (h : LieY yW w q o l) {j : Nat} {x : Ow} (hx : l[j]? = some x) : (Instr.loadAt 31 (.pointer (some ⟨q, o + j * 8, none⟩))).run Tryd.prog w = .ok (oval x.k x.x x.A x.B) w :=
  run_loadAt_mid (P := Tryd.prog) w q (o + j * 8) 31 x.cs _ (fun k v hv => h j x hx k v hv) Tryd.underlying31 rfl (by kernel_rfl)
theorem ldW0 {w : World} {q o : Nat} {l : List Ow} (h : LieY yW w q o l) {j : Nat} {x : Ow} (hx : l[j]? = some x) : (Instr.loadAt 3 (.pointer (some ⟨q, o + j * 8, none⟩))).run Tryd.prog w = .ok (.int .i64 x.k) w := by
  have hc : w.cell? ⟨q, o + j * 8, none⟩ = some (.int .i64 x.k) := h j x hx 0 _ rfl
  go_simp
theorem ldW1 {w : World} {q o : Nat} {l : List Ow} (h : LieY yW w q o l) {j : Nat} {x : Ow} (hx : l[j]? = some x) : (Instr.loadAt 29 (.pointer (some ⟨q, o + j * 8 + 1, none⟩))).run Tryd.prog w = .ok x.x.val20 w :=
  run_loadAt_mid (P := Tryd.prog) w q (o + j * 8 + 1) 29 x.x.cs _ (fun k v hv => by
    have := h j x hx (1 + k) v (by
      show (ocs x.k x.x x.A x.B)[1 + k]? = some v
      rw [ocs, show 1 + k = k + 1 by omega, List.getElem?_cons_succ, List.getElem?_append_left (List.getElem?_eq_some_iff.1 hv).1]
      exact hv)
    rw [← Nat.add_assoc] at this
    exact this) Tryd.underlying29 rfl i5e20
theorem bdO1_20 (k A : Int) (w : World) : (Instr.build 31 #[(0, .int .i64 k), (2, .int .i64 A)]).run Tryd.prog w = .ok (oval k yE.z A 0) w := by kernel_rfl
theorem bdO0_20 (k : Int) (w : World) : (Instr.build 31 #[(0, .int .i64 k)]).run Tryd.prog w = .ok (oval k yE.z 0 0) w := by kernel_rfl
theorem does_any (l : List En) (a : Option Addr) (n c : Nat) (B9 q : Nat) (v : Value) (E : List Hs) (k : Int) (x : En) (A B : Int) (w : World) (h : SlY yE w a n c l) (ht : TV w B9 q v (l.map lf) E) (he : EdgeOf (l.map lf) E) (hT : Tb w) (hn : n ≤ 1048576) (hv : ∀ x ∈ l, x.o.v.size ≤ 140737488349000) :
    Calls Tryd.prog 8 #[.pointer (some ⟨q, 0, none⟩), .slice a n c, oval k x A B] w fun e w' => e = .returned (.bool true) ∧ Below w.heap.size w w' := by
  by_cases h1 : k = 1
  · subst h1; exact does1_20 l a n c B9 q v E x A B w h ht he hT hn hv
  by_cases h2 : k = 2
  · subst h2; exact does2_20 l a n c B9 q v E x A B w h ht he hT hn hv
  by_cases h3 : k = 3
  · subst h3
    by_cases hA : A < 0 ∨ (n : Int) < A
    · exact does3B_20 l a n c B9 q v E x A B hA w h ht he hT hn hv
    · obtain ⟨A', rfl⟩ : ∃ A' : Nat, A = (A' : Int) := ⟨A.toNat, by omega⟩
      exact does3_20 l a n c B9 q v E x A' B (by omega) w h ht he hT hn hv
  by_cases h4 : k = 4
  · subst h4
    by_cases hB : B < 0 ∨ (n : Int) < B
    · exact does4B_20 l a n c B9 q v E x A B hB w h ht hn hv
    · obtain ⟨B', rfl⟩ : ∃ B' : Nat, B = (B' : Int) := ⟨B.toNat, by omega⟩
      exact does4_20 l a n c B9 q v E x A B' (by omega) w h ht hn hv
  by_cases h5 : k = 5
  · subst h5
    by_cases hB : B < 0 ∨ (n : Int) < B
    · exact does5B_20 l a n c B9 q v E x A B hB w h ht hn hv
    · obtain ⟨B', rfl⟩ : ∃ B' : Nat, B = (B' : Int) := ⟨B.toNat, by omega⟩
      exact does5_20 l a n c B9 q v E x A B' (by omega) w h ht hn hv
  exact does0_20 l a n c B9 q v E x k A B ⟨h1, h2, h3, h4, h5⟩ w h ht he hT hn hv
theorem TV.upd20 {S : Nat → Prop} {w w' : World} {B q : Nat} {v : Value} {L E : List Hs} (h : TV w B q v L E) (u : Upd S w w') (hq : ¬ S q) (hv : ∀ g, v.ownBlock = some g → ¬ S g) : TV w' B q v L E := ⟨h.box.upd u hq, h.own.upd1 u hv, h.lt, Nat.le_trans h.le u.size⟩
theorem hE_T : yE.T ≠ yH.T := by decide
set_option maxHeartbeats 2000000 in
theorem new20 (w : World) :
    Calls Tryd.prog 6 #[] w fun e w' => e = .returned (.pointer (some ⟨w.heap.size, 0, none⟩)) ∧ TV w' (w.heap.size + 1) w.heap.size (.slice none 0 0) [] (List.replicate 63 zH) ∧ Below w.heap.size w w' ∧ w'.heap.size = w.heap.size + 1 := by
  go_enter Tryd.func6, Tryd.ntmps6
  go_upto_region 0 with fail
  refine wp_region_lit ?_
  refine vl_gen (fun T => Rp T 3 []) (Rp.nil rfl) (fun Z0 q0 => ?_)
  refine q0.t (.pointer none) (ex_assign rfl rfl) fun _ q1 => ?_;clear q0
  refine wpList_nil ?_
  go_upto_region 1 with fail
  refine wp_region_lit ?_
  refine q1.t (.agg (tcs (.slice none 0 0) (List.replicate 63 zH)).toArray) (ex_build rfl (bdT20 _)) fun _ q2 => ?_;clear q1
  obtain ⟨w1, hw1⟩ : ∃ y, y = w.alloc (.cells (tcs (.slice none 0 0) (List.replicate 63 zH)).toArray 56) := ⟨_, rfl⟩
  refine vw (.pointer (some ⟨w.heap.size, 0, none⟩)) w1 (want_none rfl) (ex_box18 rfl (q2.e (j := 1) rfl) (by rw [hw1]; exact bxT20 _ _ _)) rfl q2.z (by decide) (q2.k fun _ q3 => ?_);clear q2
  have B1 : BB w1 w.heap.size 56 (tcs (.slice none 0 0) (List.replicate 63 zH)) := by rw [hw1]; exact BB.new _ _ _
  have b1 : Below w.heap.size w w1 := by rw [hw1]; exact (Below.refl _ _).alloc (Nat.le_refl _) _
  have z1 : w1.heap.size = w.heap.size + 1 := by rw [hw1]; exact World.size_alloc _ _
  clear hw1
  refine q3.t (.pointer (some ⟨w.heap.size, 0, none⟩)) (ex_assign rfl (q3.e (j := 2) rfl)) fun _ q4 => ?_;clear q3
  refine wpList_nil ?_
  go_wp2
  refine bodyPost_ret (results_tmp rfl _ _ _) rfl ?_
  rw [getD_of (q4.a 0 rfl)]
  exact ⟨rfl, tv_new B1 z1, b1, z1⟩
theorem bs1E20 (x : En) (w : World) : (Instr.buildSlice 25 1 #[(0, x.val20)]).run Tryd.prog w = .ok (.slice (some ⟨w.heap.size, 0, none⟩) 1 1) (w.alloc (.cells x.cs.toArray 29)) := by unfold En.val20 En.cs; go_simp
set_option maxHeartbeats 2000000 in
theorem grows20 (S : List Ow) (a : Option Addr) (n c : Nat) (w : World) (h : SlY yW w a n c S) (ht : Tb w) (hn : n ≤ 1048576) (hv : ∀ s ∈ S, s.x.o.v.size ≤ 140737488349000) :
    Calls Tryd.prog 3 #[.slice a n c] w fun e w' => e = .returned (.bool true) ∧ Below w.heap.size w w' := by
  go_enter Tryd.func3, Tryd.ntmps3
  go_upto_region 0 with fail
  refine wp_region_lit ?_
  refine vl_gen (fun T => Rp T 69 [(0, gw true (.slice a n c))]) ((Rp.nil rfl).cons rfl) (fun Z0 q0 => ?_)
  have hln := h.len
  refine q0.t (.bool false) (ex_assign rfl rfl) fun _ q1 => ?_;clear q0
  refine wpList_nil ?_
  go_upto_region 1 with fail
  refine wp_region_lit ?_
  refine vcallP (want_none rfl) (ex_call (args := #[]) rfl (by simp) rfl) (new20 w) rfl q1.z (by decide) ?_
  rintro e w1 ⟨rfl, V0, b1, z1⟩
  refine ⟨_, rfl, q1.k fun _ q2 => ?_⟩;clear q1
  refine q2.t (.pointer (some ⟨w.heap.size, 0, none⟩)) (ex_assign rfl (q2.e (j := 6) rfl)) fun _ q3 => ?_;clear q2
  refine wpList_nil ?_
  go_upto_region 2 with fail
  refine wp_region_lit ?_
  refine q3.t (.pointer (some ⟨w.heap.size, 0, none⟩)) (ex_move rfl (q3.e (j := 3) rfl)) fun _ q4 => ?_;clear q3
  refine q4.t (.bool false) (ex_bin (Y := .pointer none) rfl (q4.e (j := 7) rfl) rfl (eqPT20 _ _ _ _)) fun _ q5 => ?_;clear q4
  refine wpList_nil ?_
  go_upto_region 4 with fail
  refine wp_cond_false (q5.e (j := 8) rfl) ?_
  go_upto_region 4 with fail
  refine wp_region_lit ?_
  refine q5.t (.slice none 0 0) (ex_assign rfl rfl) fun _ q6 => ?_;clear q5
  refine wpList_nil ?_
  go_upto_region 5 with fail
  refine wp_region_lit ?_
  refine q6.t (.int .i64 ((0 : Nat) : Int)) (ex_assign rfl rfl) fun _ q7 => ?_;clear q6
  have q8 := (((((Rp.nil q7.z).cons (q7.a 0 rfl)).cons (q7.a 3 rfl)).cons (q7.a 4 rfl)).cons (q7.a 5 rfl))
  clear q7
  refine wpList_nil ?_
  go_upto_region 6 with fail
  refine v_loop 5 n (fun j T wr => ∃ (l : List En) (lv v : Value) (E : List Hs), Rp T 69 [(5, gw true (.int .i64 ((j : Nat) : Int))), (4, gw true lv), (3, gw true (.pointer (some ⟨w.heap.size, 0, none⟩))), (0, gw true (.slice a n c))] ∧ Hid (OwnY yE (w.heap.size + 1) wr lv l ∧ l.length ≤ j ∧ (∀ y ∈ l, y.o.v.size ≤ 140737488349000) ∧ TV wr (w.heap.size + 1) w.heap.size v (l.map lf) E ∧ EdgeOf (l.map lf) E ∧ Below w.heap.size w wr)) (fun j T w h => by obtain ⟨_, _, _, _, h, _⟩ := h; exact h.a 5 rfl) ⟨[], _, _, _, q8, OwnY.nil _ _ _, by simp, by simp, V0, edge_nil, b1⟩ ?_
  clear q8
  intro j T wr hj hh
  obtain ⟨l, lv, v, E, q100, HJ⟩ := hh
  obtain ⟨oL, hlj, hvl, TV1, he1, dr⟩ := HJ.out
  clear HJ
  have zr := dr.size
  obtain ⟨al, cl, hlv, hlc, hlm, hlz, _⟩ := oL.form
  subst hlv
  have sL := oL.sl' kE
  by_cases hit : j < n
  · obtain ⟨s, hs⟩ : ∃ s, S[j]? = some s := ⟨_, List.getElem?_eq_getElem (by omega)⟩
    obtain ⟨qa, oa, hqa, hqal, hl0⟩ := h.place (by rintro rfl; simp at hs)
    have hlie : LieY yW wr qa oa S := hl0.upd (S := fun _ => False) (Upd.of_below dr) hqal id
    have hsv := hv s (List.mem_of_getElem? hs)
    go_upto_region 6 with fail
    refine wp_region_lit ?_
    refine q100.t (.int .i64 ((j : Nat) : Int)) (ex_move rfl (q100.e (j := 5) rfl)) fun _ q101 => ?_;clear q100
    refine q101.t (.slice a n c) (ex_move rfl (q101.e (j := 0) rfl)) fun _ q102 => ?_;clear q101
    refine q102.t (.int .i64 ((n : Nat) : Int)) (ex_lenG rfl rfl Tryd.underlying22 (q102.e (j := 10) rfl)) fun _ q103 => ?_;clear q102
    refine q103.t (.bool true) (ex_bin rfl (q103.e (j := 9) rfl) (q103.e (j := 11) rfl) (ltT _ _ hit _)) fun _ q104 => ?_;clear q103
    refine wpList_nil ?_
    go_upto_region 8 with fail
    refine wp_cond_true (q104.e (j := 12) rfl) ?_
    go_upto_region 8 with fail
    refine wp_region_lit ?_
    refine q104.t (.slice a n c) (ex_move rfl (q104.e (j := 0) rfl)) fun _ q105 => ?_;clear q104
    refine q105.t (.int .i64 ((j : Nat) : Int)) (ex_move rfl (q105.e (j := 5) rfl)) fun _ q106 => ?_;clear q105
    refine q106.t (.pointer (some ⟨qa, oa + j * 8, none⟩)) (ex_ix rfl (q106.e (j := 15) rfl) (q106.e (j := 16) rfl) (by rw [hqa]; exact ixW20 qa oa n c j hit _)) fun _ q107 => ?_;clear q106
    refine q107.t (.pointer (some ⟨qa, oa + j * 8, none⟩)) (ex_fa rfl (q107.e (j := 17) rfl) (faW0 _ _ _)) fun _ q108 => ?_;clear q107
    refine q108.t (.int .i64 s.k) (ex_ld rfl (q108.e (j := 18) rfl) (ldW0 hlie hs)) fun _ q109 => ?_;clear q108
    by_cases hk : s.k = 0
    · refine q109.t (.bool true) (ex_bin (Y := .int .i64 ((0 : Nat) : Int)) rfl (q109.e (j := 19) rfl) rfl (eqT20 _ _ hk _)) fun _ q110 => ?_;clear q109
      refine wpList_nil ?_
      go_upto_region 9 with fail
      refine wp_cond_true (q110.e (j := 20) rfl) ?_
      go_upto_region 9 with fail
      refine wp_region_lit ?_
      refine q110.t (.slice al l.length cl) (ex_move rfl (q110.e (j := 4) rfl)) fun _ q111 => ?_;clear q110
      refine q111.t (.slice a n c) (ex_move rfl (q111.e (j := 0) rfl)) fun _ q112 => ?_;clear q111
      refine q112.t (.int .i64 ((j : Nat) : Int)) (ex_move rfl (q112.e (j := 5) rfl)) fun _ q113 => ?_;clear q112
      refine q113.t (.pointer (some ⟨qa, oa + j * 8, none⟩)) (ex_ix rfl (q113.e (j := 22) rfl) (q113.e (j := 23) rfl) (by rw [hqa]; exact ixW20 qa oa n c j hit _)) fun _ q114 => ?_;clear q113
      refine q114.t (.pointer (some ⟨qa, oa + j * 8 + 1, none⟩)) (ex_fa rfl (q114.e (j := 24) rfl) (faW1 _ _ _)) fun _ q115 => ?_;clear q114
      refine q115.t (s.x.val20) (ex_ld rfl (q115.e (j := 25) rfl) (ldW1 hlie hs)) fun _ q116 => ?_;clear q115
      obtain ⟨r5, hr5⟩ : ∃ z, z = wr.alloc (.cells s.x.cs.toArray 29) := ⟨_, rfl⟩
      refine vw (.slice (some ⟨wr.heap.size, 0, none⟩) 1 1) r5 (want_none rfl) (ex_bs18 rfl (q116.e (j := 26) rfl) (by rw [hr5]; exact bs1E20 _ _)) rfl q116.z (by decide) (q116.k fun _ q117 => ?_);clear q116
      have s5 : SlY yE r5 (some ⟨wr.heap.size, 0, none⟩) 1 1 [s.x] := by rw [hr5]; exact sl_box (Y := yE) wr s.x 29
      have b5 : Below wr.heap.size wr r5 := by rw [hr5]; exact (Below.refl _ _).alloc (Nat.le_refl _) _
      clear hr5
      have y5 := b5.size
      have oL5 := oL.grow b5
      have TV5 := TV1.later b5
      have d5 := dr.trans (b5.mono zr)
      obtain ⟨v6, r6, ha6, o6, g6, hb6⟩ := run_appY kE r5 25 (w.heap.size + 1) l (.slice al l.length cl) _ 1 1 [s.x] s5 oL5 (by have := TV5.le; omega) (by unfold maxLen; omega) (by show (l.length + 1) * 48 ≤ _; omega)
      have u6 := gupd20 g6
      have y6 := u6.size
      have TV6 := TV5.upd20 u6 (fun e => by have := (oL5.blk _ e).1; omega) (fun g hg e => OwnY.apart oL5 TV5.own hE_T g e hg)
      have d6 : Below w.heap.size w r6 := d5.trans (u6.below d5.size (fun k hk => by have := (oL5.blk _ hk).1; omega))
      refine vw (v6) r6 (want_none rfl) (ex_app18 rfl (q117.e (j := 21) rfl) (q117.e (j := 27) rfl) ha6) rfl q117.z (by decide) (q117.k fun _ q118 => ?_);clear q117
      refine q118.t (v6) (ex_assign rfl (q118.e (j := 28) rfl)) fun _ q119 => ?_;clear q118
      refine wpList_nil ?_
      go_upto_region 10 with fail
      refine wp_region_lit ?_
      have hlie6 : LieY yW r6 qa oa S := hl0.upd (S := fun _ => False) (Upd.of_below d6) hqal id
      refine q119.t (.pointer (some ⟨w.heap.size, 0, none⟩)) (ex_move rfl (q119.e (j := 3) rfl)) fun _ q120 => ?_;clear q119
      refine q120.t (.slice a n c) (ex_move rfl (q120.e (j := 0) rfl)) fun _ q121 => ?_;clear q120
      refine q121.t (.int .i64 ((j : Nat) : Int)) (ex_move rfl (q121.e (j := 5) rfl)) fun _ q122 => ?_;clear q121
      refine q122.t (.pointer (some ⟨qa, oa + j * 8, none⟩)) (ex_ix rfl (q122.e (j := 30) rfl) (q122.e (j := 31) rfl) (by rw [hqa]; exact ixW20 qa oa n c j hit _)) fun _ q123 => ?_;clear q122
      refine q123.t (.pointer (some ⟨qa, oa + j * 8 + 1, none⟩)) (ex_fa rfl (q123.e (j := 32) rfl) (faW1 _ _ _)) fun _ q124 => ?_;clear q123
      refine q124.t (s.x.val20) (ex_ld rfl (q124.e (j := 33) rfl) (ldW1 hlie6 hs)) fun _ q125 => ?_;clear q124
      refine vcallP (want_none rfl) (ex_call rfl (by simp only [List.map_toArray, List.map_cons, List.map_nil, (q125.e (j := 29) rfl), (q125.e (j := 34) rfl), evc] <;> rfl) rfl) (add20 _ _ _ _ _ s.x r6 TV6 (by rw [List.length_map]; omega) (by omega)) rfl q125.z (by decide) ?_
      rintro e r7 ⟨rfl, v7, TV7, U7, _⟩
      refine ⟨_, rfl, q125.k fun _ q126 => ?_⟩;clear q125
      have y7 := U7.size
      have o7 : OwnY yE (w.heap.size + 1) r7 v6 (l ++ [s.x]) := o6.upd1 U7 (fun g hg e => by
        rcases e with e | e
        · have := (o6.blk g hg).1; omega
        · exact OwnY.apart o6 TV6.own hE_T g hg e)
      have d7 : Below w.heap.size w r7 := tv_bel TV6 d6 (Nat.le_refl _) U7
      have E7 := edge_add (x := lf s.x) he1 (by rw [List.length_map]; omega)
      rw [List.length_map] at TV7 E7
      have em : l.map lf ++ [lf s.x] = (l ++ [s.x]).map lf := by rw [List.map_append]; rfl
      rw [em] at TV7 E7
      obtain ⟨a7, c7, hv7, _, _, _, _⟩ := o7.form
      subst hv7
      refine q126.t (.slice a7 (l ++ [s.x]).length c7) (ex_move rfl (q126.e (j := 4) rfl)) fun _ q127 => ?_;clear q126
      refine q127.t (.int .i64 (((l ++ [s.x]).length : Nat) : Int)) (ex_lenG rfl rfl Tryd.underlying25 (q127.e (j := 36) rfl)) fun _ q128 => ?_;clear q127
      refine q128.t (.bool false) (ex_bin rfl (q128.e (j := 35) rfl) (q128.e (j := 37) rfl) (neF20 _ _ (by rw [List.length_append, List.length_map]; rfl) _)) fun _ q129 => ?_;clear q128
      refine wpList_nil ?_
      go_upto_region 7 with fail
      refine wp_cond_false (q129.e (j := 38) rfl) ?_
      go_upto_region 7 with fail
      refine wp_region_lit ?_
      refine q129.t (.int .i64 ((j : Nat) : Int)) (ex_move rfl (q129.e (j := 5) rfl)) fun _ q130 => ?_;clear q129
      refine q130.t (.int .i64 ((j + 1 : Nat) : Int)) (ex_bin rfl (q130.e (j := 13) rfl) rfl (add1C _ _ j (by omega) _)) fun _ q131 => ?_;clear q130
      refine q131.t (.int .i64 ((j + 1 : Nat) : Int)) (ex_assign rfl (q131.e (j := 14) rfl)) fun _ q132 => ?_;clear q131
      have q133 := (((((Rp.nil q132.z).cons (q132.a 0 rfl)).cons (q132.a 3 rfl)).cons (q132.a 4 rfl)).cons (q132.a 5 rfl))
      clear q132
      refine wpList_nil ?_
      exact ⟨_, rfl, hit, (l ++ [s.x]), _, v7, _, q133, o7, by rw [List.length_append]; show l.length + 1 ≤ j + 1; omega, fun y hy => (List.mem_append.1 hy).elim (hvl y) (fun e => by rw [List.mem_singleton.1 e]; exact hsv), TV7, E7, d7⟩
    · refine q109.t (.bool false) (ex_bin (Y := .int .i64 ((0 : Nat) : Int)) rfl (q109.e (j := 19) rfl) rfl (eqF20 _ _ hk _)) fun _ q110 => ?_;clear q109
      refine wpList_nil ?_
      go_upto_region 12 with fail
      refine wp_cond_false (q110.e (j := 20) rfl) ?_
      go_upto_region 12 with fail
      refine wp_region_lit ?_
      refine q110.t (.pointer (some ⟨w.heap.size, 0, none⟩)) (ex_move rfl (q110.e (j := 3) rfl)) fun _ q111 => ?_;clear q110
      refine q111.t (.slice al l.length cl) (ex_move rfl (q111.e (j := 4) rfl)) fun _ q112 => ?_;clear q111
      refine q112.t (.slice a n c) (ex_move rfl (q112.e (j := 0) rfl)) fun _ q113 => ?_;clear q112
      refine q113.t (.int .i64 ((j : Nat) : Int)) (ex_move rfl (q113.e (j := 5) rfl)) fun _ q114 => ?_;clear q113
      refine q114.t (.pointer (some ⟨qa, oa + j * 8, none⟩)) (ex_ix rfl (q114.e (j := 41) rfl) (q114.e (j := 42) rfl) (by rw [hqa]; exact ixW20 qa oa n c j hit _)) fun _ q115 => ?_;clear q114
      refine q115.t (oval s.k s.x s.A s.B) (ex_ld rfl (q115.e (j := 43) rfl) (ldW hlie hs)) fun _ q116 => ?_;clear q115
      refine vcallP (want_none rfl) (ex_call rfl (by simp only [List.map_toArray, List.map_cons, List.map_nil, (q116.e (j := 39) rfl), (q116.e (j := 40) rfl), (q116.e (j := 44) rfl), evc] <;> rfl) rfl) (does_any l _ _ _ _ _ v E s.k s.x s.A s.B wr sL TV1 he1 (ht.of_below dr ht.lt) (by omega) hvl) rfl q116.z (by decide) ?_
      rintro e r7 ⟨rfl, b7⟩
      refine ⟨_, rfl, q116.k fun _ q117 => ?_⟩;clear q116
      have y7 := b7.size
      refine q117.t (.bool (!true)) (ex_not rfl (q117.e (j := 45) rfl)) fun _ q118 => ?_;clear q117
      refine wpList_nil ?_
      go_upto_region 7 with fail
      refine wp_cond_false (q118.e (j := 46) rfl) ?_
      go_upto_region 7 with fail
      refine wp_region_lit ?_
      refine q118.t (.int .i64 ((j : Nat) : Int)) (ex_move rfl (q118.e (j := 5) rfl)) fun _ q119 => ?_;clear q118
      refine q119.t (.int .i64 ((j + 1 : Nat) : Int)) (ex_bin rfl (q119.e (j := 13) rfl) rfl (add1C _ _ j (by omega) _)) fun _ q120 => ?_;clear q119
      refine q120.t (.int .i64 ((j + 1 : Nat) : Int)) (ex_assign rfl (q120.e (j := 14) rfl)) fun _ q121 => ?_;clear q120
      have q122 := (((((Rp.nil q121.z).cons (q121.a 0 rfl)).cons (q121.a 3 rfl)).cons (q121.a 4 rfl)).cons (q121.a 5 rfl))
      clear q121
      refine wpList_nil ?_
      exact ⟨_, rfl, hit, l, _, v, E, q122, oL.grow b7, by omega, hvl, TV1.later b7, he1, dr.trans (b7.mono zr)⟩
  · obtain rfl : j = n := by omega
    go_upto_region 6 with fail
    refine wp_region_lit ?_
    refine q100.t (.int .i64 ((j : Nat) : Int)) (ex_move rfl (q100.e (j := 5) rfl)) fun _ q101 => ?_;clear q100
    refine q101.t (.slice a j c) (ex_move rfl (q101.e (j := 0) rfl)) fun _ q102 => ?_;clear q101
    refine q102.t (.int .i64 ((j : Nat) : Int)) (ex_lenG rfl rfl Tryd.underlying22 (q102.e (j := 10) rfl)) fun _ q103 => ?_;clear q102
    refine q103.t (.bool false) (ex_bin rfl (q103.e (j := 9) rfl) (q103.e (j := 11) rfl) (ltF _ _ hit _)) fun _ q104 => ?_;clear q103
    refine wpList_nil ?_
    go_upto_region 14 with fail
    refine wp_cond_false (q104.e (j := 12) rfl) ?_
    go_upto_region 14 with fail
    refine wp_region_lit ?_
    refine q104.t (.pointer (some ⟨w.heap.size, 0, none⟩)) (ex_move rfl (q104.e (j := 3) rfl)) fun _ q105 => ?_;clear q104
    refine q105.t (.slice al l.length cl) (ex_move rfl (q105.e (j := 4) rfl)) fun _ q106 => ?_;clear q105
    refine q106.t (oval 1 yE.z 0 0) (ex_buildP18 (P := #[(0, .int .i64 1)]) rfl (by simp only [List.map_toArray, List.map_cons, List.map_nil, evc] <;> rfl) (bdO0_20 _ _)) fun _ q107 => ?_;clear q106
    refine vcallP (want_none rfl) (ex_call rfl (by simp only [List.map_toArray, List.map_cons, List.map_nil, (q107.e (j := 47) rfl), (q107.e (j := 48) rfl), (q107.e (j := 49) rfl), evc] <;> rfl) rfl) (does_any l _ _ _ _ _ v E 1 yE.z 0 0 wr sL TV1 he1 (ht.of_below dr ht.lt) (by omega) hvl) rfl q107.z (by decide) ?_
    rintro e x1 ⟨rfl, c1⟩
    refine ⟨_, rfl, q107.k fun _ q108 => ?_⟩;clear q107
    have k1 := c1.size
    have d1 := dr.trans (c1.mono zr)
    have TX1 := TV1.later c1
    have sX1 := sL.later c1
    refine q108.t (.bool true) (ex_move rfl (q108.e (j := 50) rfl)) fun _ q109 => ?_;clear q108
    refine vl _ (.pointer (some ⟨w.heap.size, 0, none⟩)) (want_g rfl rfl (q109.a 51 rfl)) (fun hc => ex_move rfl (q109.e (j := 3) rfl)) rfl q109.z (by decide) (q109.k fun _ q110 => ?_);clear q109
    refine vl _ (.slice al l.length cl) (want_g rfl rfl (q110.a 51 rfl)) (fun hc => ex_move rfl (q110.e (j := 4) rfl)) rfl q110.z (by decide) (q110.k fun _ q111 => ?_);clear q110
    refine vl _ (oval 2 yE.z 0 0) (want_g rfl rfl (q111.a 51 rfl)) (fun hc => ex_buildP18 (P := #[(0, .int .i64 2)]) rfl (by simp only [List.map_toArray, List.map_cons, List.map_nil, evc] <;> rfl) (bdO0_20 _ _)) rfl q111.z (by decide) (q111.k fun _ q112 => ?_);clear q111
    refine vcallP (show Region.wanted _ _ = (true && (true == true)) from want_g rfl rfl (q112.a 51 rfl)) (ex_call rfl (by simp only [List.map_toArray, List.map_cons, List.map_nil, (ev (q112.a 52 rfl) rfl), (ev (q112.a 53 rfl) rfl), (ev (q112.a 54 rfl) rfl), evc] <;> rfl) rfl) (does_any l _ _ _ _ _ v E 2 yE.z 0 0 x1 sX1 TX1 he1 (ht.of_below d1 ht.lt) (by omega) hvl) rfl q112.z (by decide) ?_
    rintro e x2 ⟨rfl, c2⟩
    refine ⟨_, rfl, q112.k fun _ q113 => ?_⟩;clear q112
    have k2 := c2.size
    have d2 := d1.trans (c2.mono d1.size)
    have TX2 := TX1.later c2
    have sX2 := sX1.later c2
    refine q113.t (.bool true) (ex_and (z := true) rfl (q113.a 51 rfl) (q113.a 55 rfl) rfl) fun _ q114 => ?_;clear q113
    refine q114.t (.bool true) (ex_move rfl (q114.e (j := 56) rfl)) fun _ q115 => ?_;clear q114
    refine vl _ (.pointer (some ⟨w.heap.size, 0, none⟩)) (want_g rfl rfl (q115.a 57 rfl)) (fun hc => ex_move rfl (q115.e (j := 3) rfl)) rfl q115.z (by decide) (q115.k fun _ q116 => ?_);clear q115
    refine vl _ (.slice al l.length cl) (want_g rfl rfl (q116.a 57 rfl)) (fun hc => ex_move rfl (q116.e (j := 4) rfl)) rfl q116.z (by decide) (q116.k fun _ q117 => ?_);clear q116
    refine vl _ (.slice al l.length cl) (want_g rfl rfl (q117.a 57 rfl)) (fun hc => ex_move rfl (q117.e (j := 4) rfl)) rfl q117.z (by decide) (q117.k fun _ q118 => ?_);clear q117
    refine vl _ (.int .i64 ((l.length : Nat) : Int)) (want_g rfl rfl (q118.a 57 rfl)) (fun hc => ex_lenG rfl rfl Tryd.underlying25 (ev (q118.a 60 rfl) hc)) rfl q118.z (by decide) (q118.k fun _ q119 => ?_);clear q118
    refine vl _ (.int .i64 ((l.length / 2 : Nat) : Int)) (want_g rfl rfl (q119.a 57 rfl)) (fun hc => ex_bin (Y := .int .i64 (2 : Int)) rfl (ev (q119.a 61 rfl) hc) rfl (quo2 _ _ l.length (by omega) _)) rfl q119.z (by decide) (q119.k fun _ q120 => ?_);clear q119
    refine vl _ (oval 3 yE.z ((l.length / 2 : Nat) : Int) 0) (want_g rfl rfl (q120.a 57 rfl)) (fun hc => ex_buildP18 (P := #[(0, .int .i64 3), (2, .int .i64 ((l.length / 2 : Nat) : Int))]) rfl (by simp only [List.map_toArray, List.map_cons, List.map_nil, (ev (q120.a 62 rfl) hc), evc] <;> rfl) (bdO1_20 _ _ _)) rfl q120.z (by decide) (q120.k fun _ q121 => ?_);clear q120
    refine vcallP (show Region.wanted _ _ = (true && (true == true)) from want_g rfl rfl (q121.a 57 rfl)) (ex_call rfl (by simp only [List.map_toArray, List.map_cons, List.map_nil, (ev (q121.a 58 rfl) rfl), (ev (q121.a 59 rfl) rfl), (ev (q121.a 63 rfl) rfl), evc] <;> rfl) rfl) (does_any l _ _ _ _ _ v E 3 yE.z _ 0 x2 sX2 TX2 he1 (ht.of_below d2 ht.lt) (by omega) hvl) rfl q121.z (by decide) ?_
    rintro e x3 ⟨rfl, c3⟩
    refine ⟨_, rfl, q121.k fun _ q122 => ?_⟩;clear q121
    have k3 := c3.size
    have d3 := d2.trans (c3.mono d2.size)
    refine q122.t (.bool true) (ex_and (z := true) rfl (q122.a 57 rfl) (q122.a 64 rfl) rfl) fun _ q123 => ?_;clear q122
    refine q123.t (.bool true) (ex_move rfl (q123.e (j := 65) rfl)) fun _ q124 => ?_;clear q123
    refine vcallP (show Region.wanted _ _ = (true && (true == true)) from want_g rfl rfl (q124.a 66 rfl)) (ex_call (args := #[]) rfl (by simp) rfl) (works20 x3) rfl q124.z (by decide) ?_
    rintro e x4 ⟨rfl, c4⟩
    refine ⟨_, rfl, q124.k fun _ q125 => ?_⟩;clear q124
    have d4 := d3.trans (c4.mono d3.size)
    refine q125.t (.bool true) (ex_and (z := true) rfl (q125.a 66 rfl) (q125.a 67 rfl) rfl) fun _ q126 => ?_;clear q125
    refine q126.t (.bool true) (ex_assign rfl (q126.e (j := 68) rfl)) fun _ q127 => ?_;clear q126
    refine wpList_nil ?_
    go_wp2
    refine bodyPost_ret (results_tmp rfl _ _ _) rfl ?_
    rw [getD_of (q127.a 2 rfl)]
    exact ⟨rfl, d4⟩
end Go.Proofs.YtomiifnhcojilaaDoor
namespace Go.Proofs.YtomiifnhcojilaaDoor
open Go.ChangeShapes Go.WideShapes Go.RowKit
open Classical
theorem bulk_app {H : Type} (l r : List (DataW H)) : Rows.uptoBulkAll (l ++ r) = Rows.uptoBulkAll l + Rows.uptoBulkAll r := by
  induction l with
  | nil => simp [Rows.uptoBulkAll]
  | cons x l ih => simp only [List.cons_append, Rows.uptoBulkAll, ih]; omega
theorem bulk_range {H : Type} (D : Nat → DataW H) (f : Nat → Nat) : ∀ n, (∀ i, i < n → f i ≤ Rows.uptoBulk (D i)) → ((List.range n).map f).sum ≤ Rows.uptoBulkAll ((List.range n).map D)
  | 0, _ => by simp [Rows.uptoBulkAll]
  | n + 1, h => by
    have h1 := bulk_range D f n (fun i hi => h i (by omega))
    have h2 := h n (by omega)
    rw [List.range_succ, List.map_append, List.map_append, bulk_app, List.sum_append]
    simp only [List.map_cons, List.map_nil, List.sum_cons, List.sum_nil, Rows.uptoBulkAll]
    omega
theorem bulk_bound {H : Type} {ds : List (DataW H)} (h : Rows.uptoSmall H ds = true) : Rows.uptoBulkAll ds ≤ 1048576 := by
  unfold Rows.uptoSmall at h
  exact of_decide_eq_true h
theorem open_up {α : Type} {Y : Lay α} (K : Y.Ok) [Inhabited α] (fits : α → Prop) (wt : α → Nat) {H : Type} {enc : TypeId × Value → H} {W : World} (hT : Tryd.prog.cellsOf Y.T = Y.k)
    (el : ∀ {n : Nat} {cs : List Value} {x : DataW H × List MemPlace}, DataW.trod enc Tryd.prog W 0 (fun _ => true) true n Y.T cs = some x → ∃ q : α, fits q ∧ cs = Y.cs q ∧ wt q ≤ Rows.uptoBulk x.1)
    {fuel : Nat} {cs : List Value} {x : DataW H × List MemPlace} (h : DataW.trod enc Tryd.prog W 0 (fun _ => true) true fuel Y.ST cs = some x) :
    ∃ (a : Option Addr) (n c : Nat) (P : List α), cs = [.slice a n c] ∧ SlY Y W a n c P ∧ (∀ q ∈ P, fits q) ∧ (P.map wt).sum + 1 ≤ Rows.uptoBulk x.1 := by
  rcases Go.Deep.open_slice K.und h with ⟨hcs, hx⟩ | ⟨y, n, c, m, k, D, Pl, hcs, hb, hl, hm, hmm, hx, hall⟩
  · refine ⟨none, 0, 0, [], hcs, ⟨rfl, Nat.le_refl _, by unfold maxLen; omega, fun _ => ⟨rfl, rfl⟩, fun x hx => .inl rfl⟩, by simp, ?_⟩
    rw [hx]
    simp [Rows.uptoBulk]
  · have hlm : n ≤ m := by rw [hmm]; split <;> omega
    have each : ∀ i, i < n → ∃ q : α, fits q ∧ (∀ j, j < Y.k → W.cell? ((y.add (i * Y.k)).add j) = (Y.cs q)[j]?) ∧ wt q ≤ Rows.uptoBulk (D i) := by
      intro i hi
      obtain ⟨cs', h1, h2⟩ := hall i (by omega)
      rw [hT] at h1
      obtain ⟨q, hf, rfl, hw⟩ := el h2
      obtain ⟨_, _, hcell⟩ := World.cells?_some h1
      exact ⟨q, hf, hcell, hw⟩
    obtain ⟨q, hq⟩ := Go.Deep.choose_lt each
    refine ⟨some y, n, c, (List.range n).map q, hcs, ⟨by simp, hl, hm, (fun e => by cases e), fun x hx => ?_⟩, ?_, ?_⟩
    · cases hx
      by_cases hn0 : n = 0
      · subst hn0
        exact .inl rfl
      · obtain ⟨b, o, s⟩ := y
        have z0 := (hq 0 (by omega)).2.1 0 K.kp
        have z1 := z0.trans (List.getElem?_eq_getElem (by rw [K.len]; exact K.kp))
        have hs := World.cell?_spot z1
        obtain rfl : s = none := by
          rw [Nat.zero_mul] at hs
          simpa [Addr.add] using hs
        refine .inr ⟨b, o, rfl, ?_, fun i x hx j u hu => ?_⟩
        · rw [Addr.add_lit, Addr.add_lit] at z1
          exact World.block_lt_of_cell? _ _ z1
        · have hi : i < n := by
            have := (List.getElem?_eq_some_iff.1 hx).1
            simpa using this
          have e : q i = x := by
            simp [hi] at hx
            exact hx
          subst e
          have hj : j < Y.k := by have := (List.getElem?_eq_some_iff.1 hu).1; rwa [K.len] at this
          have := (hq i hi).2.1 j hj
          rw [Addr.add_lit, Addr.add_lit] at this
          exact this.trans hu
    · intro z hz
      obtain ⟨i, hi, rfl⟩ := List.mem_map.1 hz
      exact (hq i (List.mem_range.1 hi)).1
    · rw [hx, List.map_map]
      have := bulk_range D (fun i => wt (q i)) n (fun i hi => (hq i hi).2.2)
      simp only [Rows.uptoBulk]
      have e : (List.range n).map (wt ∘ q) = (List.range n).map (fun i => wt (q i)) := rfl
      rw [e]
      omega
theorem cellsI20 : Tryd.prog.cellsOf 3 = 1 := by kernel_rfl
theorem cellsS20 : Tryd.prog.cellsOf 9 = 1 := by kernel_rfl
theorem cellsO20 : Tryd.prog.cellsOf 27 = 3 := by kernel_rfl
theorem cellsE20 : Tryd.prog.cellsOf 29 = 5 := by kernel_rfl
theorem up_opc {H : Type} {enc : TypeId × Value → H} {W : World} {n : Nat} {cs : List Value} {x : DataW H × List MemPlace} (h : DataW.trod enc Tryd.prog W 0 (fun _ => true) true n 27 cs = some x) :
    ∃ p : Opn, p.fits ∧ cs = [.int .i64 p.k, .int .i64 p.s, .string p.v] ∧ p.v.size ≤ Rows.uptoBulk x.1 := by
  obtain ⟨xs, k, hk, hxy, hlen, hxl, hf⟩ := DataW.trod_struct Tryd.underlying27 h
  rw [cellsO20] at hlen
  have hxl : xs.length = 3 := hxl
  match xs, hxl, cs, hlen with
  | [y0, y1, y2], _, [v0, v1, v2], _ =>
    have g0 := hf 0 _ rfl
    have g1 := hf 1 _ rfl
    have g2 := hf 2 _ rfl
    simp [cellsI20, cellsS20] at g0 g1 g2
    obtain ⟨K, hK, hx0, hw0⟩ := DataW.trod_int Tryd.underlying3 g0
    obtain ⟨N, hN, hx2, hw2⟩ := DataW.trod_int Tryd.underlying3 g1
    obtain ⟨t, hS, hx4, hw4⟩ := DataW.trod_string Tryd.underlying9 g2
    refine ⟨⟨K, N, t⟩, ⟨hw0, hw2, hw4⟩, ?_, ?_⟩
    · rw [(List.cons_eq_cons.1 hK).1, (List.cons_eq_cons.1 hN).1, (List.cons_eq_cons.1 hS).1]
    · rw [hxy]
      simp only [List.map_cons, List.map_nil, Rows.uptoBulk, Rows.uptoBulkAll, hx4]
      show t.data.size ≤ _
      rw [← Array.length_toList]
      omega
theorem up_enc {H : Type} {enc : TypeId × Value → H} {W : World} {n : Nat} {cs : List Value} {x : DataW H × List MemPlace} (h : DataW.trod enc Tryd.prog W 0 (fun _ => true) true n 29 cs = some x) :
    ∃ p : En, p.fits ∧ cs = p.cs ∧ p.o.v.size + 1 ≤ Rows.uptoBulk x.1 := by
  obtain ⟨xs, k, hk, hxy, hlen, hxl, hf⟩ := DataW.trod_struct Tryd.underlying29 h
  rw [cellsE20] at hlen
  have hxl : xs.length = 3 := hxl
  match xs, hxl, cs, hlen with
  | [y0, y1, y2], _, [v0, v1, v2, v3, v4], _ =>
    have g0 := hf 0 _ rfl
    have g1 := hf 1 _ rfl
    have g2 := hf 2 _ rfl
    simp [cellsI20, cellsO20] at g0 g1 g2
    obtain ⟨K, hK, hx0, hw0⟩ := DataW.trod_int Tryd.underlying3 g0
    obtain ⟨N, hN, hx2, hw2⟩ := DataW.trod_int Tryd.underlying3 g1
    obtain ⟨o, ho, e, hwt⟩ := up_opc g2
    refine ⟨⟨K, N, o⟩, ⟨hw0, hw2, ho⟩, ?_, ?_⟩
    · have e0 := (List.cons_eq_cons.1 hK).1
      have e1 := (List.cons_eq_cons.1 hN).1
      simp at e
      obtain ⟨e2, e3, e4⟩ := e
      subst e0 e1 e2 e3 e4
      rfl
    · rw [hxy]
      simp only [List.map_cons, List.map_nil, Rows.uptoBulk, Rows.uptoBulkAll]
      show o.v.size + 1 ≤ _
      omega
theorem mem_sum {α : Type} (f : α → Nat) : ∀ (P : List α) (x : α), x ∈ P → f x ≤ (P.map f).sum
  | [], x, h => by cases h
  | y :: r, x, h => by
    rw [List.map_cons, List.sum_cons]
    rcases List.mem_cons.1 h with rfl | h
    · omega
    · have := mem_sum f r x h
      omega
theorem len_sum {α : Type} (f : α → Nat) : ∀ (P : List α), (P.map fun x => f x + 1).sum = (P.map f).sum + P.length
  | [] => rfl
  | y :: r => by
    rw [List.map_cons, List.sum_cons, List.map_cons, List.sum_cons, len_sum f r, List.length_cons]
    omega
end Go.Proofs.YtomiifnhcojilaaDoor
namespace Go.Proofs.YtomiifnhcojilaaDoor
open Go.ChangeShapes Go.WideShapes Go.ChangeAt Go.RowKit
open Classical
theorem gDb20 : Tryd.prog.globalNamed "math/bits.deBruijn64tab" = some 1 := by kernel_rfl
theorem gDbT20 : (Tryd.prog.globals[1]?).map (·.type) = some 94 := by kernel_rfl
theorem cellsDb20 : Tryd.prog.cellsOf 94 = 64 := by kernel_rfl
theorem cellsU20 : Tryd.prog.cellsOf 5 = 1 := by kernel_rfl
theorem tb_of_laid {W : World} (h : laidMetH Tryd.prog [("math/bits.deBruijn32tab", Rows.laid_math_bits_deBruijn32tab), ("math/bits.deBruijn64tab", Rows.laid_math_bits_deBruijn64tab)] W) : Tb W := by
  rw [MakeChecks.laidMetH_plain _ _ _ (by kernel_rfl)] at h
  have e : (Rows.laid_math_bits_deBruijn64tab : DataW Unit) = Lib.tabData .u8 (Lib.deBruijn64tab.map fun (k : Nat) => (k : Int)) := by kernel_rfl
  have h3 := h.tail
  rw [e] at h3
  have ht := Lib.tabIs_of_head (rest := []) gDb20 gDbT20 Tryd.underlying94 Tryd.underlying5 cellsU20 cellsDb20 h3
  intro j hj
  unfold Lib.TabIs World.var? at ht
  rw [gDb20, Option.bind_some] at ht
  unfold World.cell?
  show (match W.heap[1]? with | some (.cells cs _ _) => cs[j]? | _ => none) = _
  split at ht
  · next cs t f hc =>
    rw [hc]
    have ht := Option.some.inj ht
    subst ht
    show ((Lib.deBruijn64tab.map fun (k : Nat) => (k : Int)).map fun z => Value.int .u8 z).toArray[j]? = _
    rw [List.getElem?_toArray, List.map_map, List.getElem?_map, List.getD_eq_getElem?_getD, List.getElem?_eq_getElem hj]
    rfl
  · cases ht
end Go.Proofs.YtomiifnhcojilaaDoor
namespace Go.Proofs.YtomiifnhcojilaaDoor
open Go.ChangeShapes Go.WideShapes Go.ChangeAt Go.RowKit
open Classical
theorem cellsW20 : Tryd.prog.cellsOf 31 = 8 := by kernel_rfl
theorem up_ow20 {H : Type} {enc : TypeId × Value → H} {W : World} {n : Nat} {cs : List Value} {x : DataW H × List MemPlace} (h : DataW.trod enc Tryd.prog W 0 (fun _ => true) true n 31 cs = some x) :
    ∃ q : Ow, True ∧ cs = yW.cs q ∧ q.x.o.v.size + 1 ≤ Rows.uptoBulk x.1 := by
  obtain ⟨xs, k, hk, hxy, hlen, hxl, hf⟩ := DataW.trod_struct Tryd.underlying31 h
  rw [cellsW20] at hlen
  have hxl : xs.length = 4 := hxl
  match xs, hxl, cs, hlen with
  | [y0, y1, y2, y3], _, [v0, v1, v2, v3, v4, v5, v6, v7], _ =>
    have g0 := hf 0 _ rfl
    have g1 := hf 1 _ rfl
    have g2 := hf 2 _ rfl
    have g3 := hf 3 _ rfl
    simp [cellsI20, cellsE20] at g0 g1 g2 g3
    obtain ⟨K, hK, hx0, hw0⟩ := DataW.trod_int Tryd.underlying3 g0
    obtain ⟨e, _, hc, hw1⟩ := up_enc g1
    obtain ⟨A, hA, hx2, hw2⟩ := DataW.trod_int Tryd.underlying3 g2
    obtain ⟨B, hB, hx3, hw3⟩ := DataW.trod_int Tryd.underlying3 g3
    refine ⟨⟨K, e, A, B⟩, trivial, ?_, ?_⟩
    · have e0 := (List.cons_eq_cons.1 hK).1
      have e2 := (List.cons_eq_cons.1 hA).1
      have e3 := (List.cons_eq_cons.1 hB).1
      simp [En.cs] at hc
      obtain ⟨c1, c2, c3, c4, c5⟩ := hc
      subst e0 e2 e3 c1 c2 c3 c4 c5
      rfl
    · rw [hxy]
      simp only [List.map_cons, List.map_nil, Rows.uptoBulk, Rows.uptoBulkAll]
      show e.o.v.size + 1 ≤ _
      omega
theorem up_ows20 {H : Type} {enc : TypeId × Value → H} {W : World} {fuel : Nat} {cs : List Value} {x : DataW H × List MemPlace} (h : DataW.trod enc Tryd.prog W 0 (fun _ => true) true fuel 22 cs = some x) :
    ∃ (a : Option Addr) (n c : Nat) (P : List Ow), cs = [.slice a n c] ∧ SlY yW W a n c P ∧ (∀ q ∈ P, True) ∧ (P.map fun q => q.x.o.v.size + 1).sum + 1 ≤ Rows.uptoBulk x.1 := by
  haveI : Inhabited Ow := ⟨⟨0, yE.z, 0, 0⟩⟩
  exact open_up kW (fun q => True) (fun q => q.x.o.v.size + 1) cellsW20 (fun {n cs x} h => up_ow20 h) h
theorem up_small7 {P : List Ow} {B : Nat} (h : (P.map fun q => q.x.o.v.size + 1).sum + 1 ≤ B) (hB : B ≤ 1048576) : P.length ≤ 1048576 ∧ ∀ s ∈ P, s.x.o.v.size ≤ 140737488349000 := by
  refine ⟨by have := len_sum (fun q : Ow => q.x.o.v.size) P; omega, fun x hx => ?_⟩
  have := mem_sum (fun q : Ow => q.x.o.v.size + 1) P x hx
  omega
theorem grows_came20 (S : List Ow) (a : Option Addr) (n c : Nat) (W : World) (h : SlY yW W a n c S) (hs : S.length ≤ 1048576 ∧ ∀ s ∈ S, s.x.o.v.size ≤ 140737488349000) (ht : Tb W) :
    Calls Tryd.prog 3 #[.slice a n c] W fun e W' => e = .returned (.bool true) ∧ Below W.heap.size W W' :=
  grows20 S a n c W h ht (by have := h.len; omega) hs.2
theorem handed_cond_and {H : Type} {enc : TypeId × Value → H} {a : Assume} {C : Checked} {os : Os} {f : FuncId} {fn : Func} {s : OpenSpec} {k : (H : Type) → List (DataW H) → Bool} (hk : s.cond = some k) {F : Stop.Interp} {conds : List PathCond} {apart fresh handsOn again : Bool} {X : World → Array Value → Prop}
    (hX : ∀ (w w' : World) (args : Array Value), w.heap = w'.heap → X w args → X w' args)
    (own : ownKnob C.prog.godebug = none) (started : os.Started) (noInit : C.prog.inits.idxOf? f = none) (hfn : C.prog.funcs[f]? = some fn)
    (witness : ∃ (w : World) (tape : Tape) (i : Input), w.os = os ∧ (w.forCall tape i).Shaped C.prog ∧ i.vars = [] ∧ Input.okWide C.prog (w.forCall tape i) .any w.heap.size f i ∧
      ((s.pre enc C.prog fn conds apart (w.forCall tape i).memory i.args ∧ X (w.forCall tape i).memory i.args) ∧ sizedMet enc C.prog fn s apart (w.forCall tape i).memory i.args) ∧ a.holds C.prog (lone (Frame.enter C.prog f i.args .normal) [] (w.forCall tape i)))
    (contract : ∀ (W : World) (base : Nat) (args : Array Value) (ds gs : List (DataW H)) (before : List MemPlace),
      (∀ (j : Nat) t v, fn.params[j]? = some t → args[j]? = some v → Value.okWide C.prog W .any base t v) →
      DataW.Whole enc C.prog fn.params.toList s.vars apart W args.toList ds gs before →
      conds.all (PathCond.test C.prog ⟨fn.params.toList, ds, s.bare.plain.varTypes C.prog, gs⟩) = true → k H (ds ++ gs) = true → X W args →
      a.holds C.prog (lone (Frame.enter C.prog f args .normal) [] W) →
      Calls C.prog f args W fun e W' => ∃ v, e = .returned v ∧ (s.at F).post enc C.prog fn apart fresh handsOn again W args v W') :
    ReturnsInHanded a C os f .any (fun w args => (s.pre enc C.prog fn conds apart w args ∧ X w args) ∧ sizedMet enc C.prog fn s apart w args) ((s.at F).post enc C.prog fn apart fresh handsOn again) := by
  refine returnsInHanded_of_calls own started noInit witness ?_
  intro w tape i _ _ _ hok hpre hholds
  obtain ⟨_, _, _, fn', hfn', _, _, _, _, hval⟩ := hok
  have e : fn' = fn := Option.some.inj (hfn'.symm.trans hfn)
  subst e
  obtain ⟨ds, gs, before, hw, hc, hkk⟩ := (OpenSpec.pre_some hk conds apart _ _).1 hpre.1.1
  have hw' := DataW.Whole.of_heap (w' := w.forCall tape i) (by rfl) hw
  refine (contract (w.forCall tape i) w.heap.size i.args ds gs before hval hw' hc hkk (hX _ _ _ (by rfl) hpre.1.2) hholds).mono fun e W' ⟨v, he, hp⟩ => ?_
  subst he
  exact ChangeSpec.post_blind hp
theorem witness_cond_and {H : Type} {enc : TypeId × Value → H} {C : Checked} {os : Os} {f : FuncId} {fn : Func} {s : OpenSpec} {k : (H : Type) → List (DataW H) → Bool} (hk : s.cond = some k) {conds : List PathCond} {apart : Bool} {X : World → Array Value → Prop} (modest : Bool) (w0 : World) (args : Array Value) (fuel : Nat) (hos : w0.os = os)
    (hsh : (w0.forCall (fun _ _ => 0) ⟨#[], args, []⟩).Shaped C.prog)
    (hok : Input.okWideB C.prog (w0.forCall (fun _ _ => 0) ⟨#[], args, []⟩) f ⟨#[], args, []⟩ = true)
    {x : List (DataW H) × List (DataW H) × List MemPlace} (hx : DataW.whole enc C.prog (w0.forCall (fun _ _ => 0) ⟨#[], args, []⟩).memory fn.params.toList s.vars apart args.toList fuel = some x)
    (hconds : conds.all (PathCond.test C.prog ⟨fn.params.toList, x.1, s.bare.plain.varTypes C.prog, x.2.1⟩) = true) (hkk : k H (x.1 ++ x.2.1) = true)
    (hsz : s.bare.sizedB enc C.prog fn apart (w0.forCall (fun _ _ => 0) ⟨#[], args, []⟩).memory args fuel = true)
    (hX : X (w0.forCall (fun _ _ => 0) ⟨#[], args, []⟩).memory args) :
    ∃ (w : World) (tape : Tape) (i : Input), w.os = os ∧ (w.forCall tape i).Shaped C.prog ∧ i.vars = [] ∧ Input.okWide C.prog (w.forCall tape i) .any w.heap.size f i ∧
      ((s.pre enc C.prog fn conds apart (w.forCall tape i).memory i.args ∧ X (w.forCall tape i).memory i.args) ∧ sizedMet enc C.prog fn s apart (w.forCall tape i).memory i.args) ∧ ({ modest := modest } : Assume).holds C.prog (lone (Frame.enter C.prog f i.args .normal) [] (w.forCall tape i)) :=
  ⟨w0, fun _ _ => 0, ⟨#[], args, []⟩, hos, hsh, (Input.okWide_of_okWideB (base := 0) hok).1, (Input.okWide_of_okWideB hok).2,
    ⟨⟨(OpenSpec.pre_some hk conds apart _ _).2 ⟨x.1, x.2.1, x.2.2, DataW.Whole_of_whole hx, hconds, hkk⟩, hX⟩, sizedMet_of_sizedB hsz⟩, by
    simp only [Assume.holds]
    exact ⟨by simp, by simp, fun _ => Modest.zero, by simp, by simp⟩⟩
end Go.Proofs.YtomiifnhcojilaaDoor
