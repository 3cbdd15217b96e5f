import Derived.Test.YteeofcoehffegaaDoorRows
import Derived.MakeChecks
import Derived.Stop.LaidErr
import Derived.Lib.LaidTab
import Derived.ChangeOld
import Derived.ProofKit
import Derived.OpenShut
import Derived.JoinedCond
import Derived.Handed
import Derived.LaidLaws
import Derived.Below
import Derived.ArgAppend
import Derived.Laws.OwnMore
import Derived.Test.YteeofcoehffegaaDoorM11
set_option maxRecDepth 100000
set_option linter.unusedVariables false
set_option linter.unusedSimpArgs false
namespace Go.Proofs.YteeofcoehffegaaDoor
open Go.RowKit Go.Maps
open Classical
structure Ow where
  k : Int
  x : En
  A : Int
  B : Int
def Ow.cs (o : Ow) : List Value := ocs o.k o.x o.A o.B
def yW : Lay Ow := ⟨31, 22, 8, 72, Ow.cs, ⟨0, yE.z, 0, 0⟩⟩
theorem kW : yW.Ok := ⟨by decide, fun o => rfl, fun o u h => by
    simp [yW, Ow.cs, ocs, En.cs] at h
    rcases h with rfl | rfl | rfl | rfl | rfl | rfl | rfl | rfl <;> rfl, Tryd.underlying22, ⟨.agg #[.int .i64 0, .int .i64 0, .int .i64 0, .int .i64 0, .int .i64 0, .string ByteArray.empty, .int .i64 0, .int .i64 0], by kernel_rfl, rfl⟩⟩
theorem ixW20 (q o n c j : Nat) (hj : j < n) (w : World) : (Instr.indexAt 22 (.slice (some ⟨q, o, none⟩) n c) (.int .i64 (j : Int))).run Tryd.prog w = .ok (.pointer (some ⟨q, o + j * 8, none⟩)) w := by
  have h1 : (j : Int) < (n : Int) := by omega
  go_simp
theorem faW0 (q o : Nat) (w : World) : (Instr.fieldAt 31 (.pointer (some ⟨q, o, none⟩)) 0).run Tryd.prog w = .ok (.pointer (some ⟨q, o, none⟩)) w := by go_simp
theorem faW1 (q o : Nat) (w : World) : (Instr.fieldAt 31 (.pointer (some ⟨q, o, none⟩)) 1).run Tryd.prog w = .ok (.pointer (some ⟨q, o + 1, none⟩)) w := by go_simp
theorem ldW {w : World} {q o : Nat} {l : List Ow} (h : LieY yW w q o l) {j : Nat} {x : Ow} (hx : l[j]? = some x) : (Instr.loadAt 31 (.pointer (some ⟨q, o + j * 8, none⟩))).run Tryd.prog w = .ok (oval x.k x.x x.A x.B) w :=
  run_loadAt_mid (P := Tryd.prog) w q (o + j * 8) 31 x.cs _ (fun k v hv => h j x hx k v hv) Tryd.underlying31 rfl (by kernel_rfl)
theorem ldW0 {w : World} {q o : Nat} {l : List Ow} (h : LieY yW w q o l) {j : Nat} {x : Ow} (hx : l[j]? = some x) : (Instr.loadAt 3 (.pointer (some ⟨q, o + j * 8, none⟩))).run Tryd.prog w = .ok (.int .i64 x.k) w := by
  have hc : w.cell? ⟨q, o + j * 8, none⟩ = some (.int .i64 x.k) := h j x hx 0 _ rfl
  go_simp
theorem ldW1 {w : World} {q o : Nat} {l : List Ow} (h : LieY yW w q o l) {j : Nat} {x : Ow} (hx : l[j]? = some x) : (Instr.loadAt 29 (.pointer (some ⟨q, o + j * 8 + 1, none⟩))).run Tryd.prog w = .ok x.x.val20 w :=
  run_loadAt_mid (P := Tryd.prog) w q (o + j * 8 + 1) 29 x.x.cs _ (fun k v hv => by
    have := h j x hx (1 + k) v (by
      show (ocs x.k x.x x.A x.B)[1 + k]? = some v
      rw [ocs, show 1 + k = k + 1 by omega, List.getElem?_cons_succ, List.getElem?_append_left (List.getElem?_eq_some_iff.1 hv).1]
      exact hv)
    rw [← Nat.add_assoc] at this
    exact this) Tryd.underlying29 rfl i5e20
theorem bdO1_20 (k A : Int) (w : World) : (Instr.build 31 #[(0, .int .i64 k), (2, .int .i64 A)]).run Tryd.prog w = .ok (oval k yE.z A 0) w := by kernel_rfl
theorem bdO0_20 (k : Int) (w : World) : (Instr.build 31 #[(0, .int .i64 k)]).run Tryd.prog w = .ok (oval k yE.z 0 0) w := by kernel_rfl
theorem does_any (l : List En) (a : Option Addr) (n c : Nat) (B9 q : Nat) (v : Value) (E : List Hs) (k : Int) (x : En) (A B : Int) (w : World) (h : SlY yE w a n c l) (ht : TV w B9 q v (l.map lf) E) (he : EdgeOf (l.map lf) E) (hT : Tb w) (hn : n ≤ 2932031007317) (hv : ∀ x ∈ l, x.o.v.size ≤ 140737488351232) :
    Calls Tryd.prog 8 #[.pointer (some ⟨q, 0, none⟩), .slice a n c, oval k x A B] w fun e w' => e = .returned (.bool true) ∧ Below w.heap.size w w' := by
  by_cases h1 : k = 1
  · subst h1; exact does1_20 l a n c B9 q v E x A B w h ht he hT hn hv
  by_cases h2 : k = 2
  · subst h2; exact does2_20 l a n c B9 q v E x A B w h ht he hT hn hv
  by_cases h3 : k = 3
  · subst h3
    by_cases hA : A < 0 ∨ (n : Int) < A
    · exact does3B_20 l a n c B9 q v E x A B hA w h ht he hT hn hv
    · obtain ⟨A', rfl⟩ : ∃ A' : Nat, A = (A' : Int) := ⟨A.toNat, by omega⟩
      exact does3_20 l a n c B9 q v E x A' B (by omega) w h ht he hT hn hv
  by_cases h4 : k = 4
  · subst h4
    by_cases hB : B < 0 ∨ (n : Int) < B
    · exact does4B_20 l a n c B9 q v E x A B hB w h ht hn hv
    · obtain ⟨B', rfl⟩ : ∃ B' : Nat, B = (B' : Int) := ⟨B.toNat, by omega⟩
      exact does4_20 l a n c B9 q v E x A B' (by omega) w h ht hn hv
  by_cases h5 : k = 5
  · subst h5
    by_cases hB : B < 0 ∨ (n : Int) < B
    · exact does5B_20 l a n c B9 q v E x A B hB w h ht hn hv
    · obtain ⟨B', rfl⟩ : ∃ B' : Nat, B = (B' : Int) := ⟨B.toNat, by omega⟩
      exact does5_20 l a n c B9 q v E x A B' (by omega) w h ht hn hv
  exact does0_20 l a n c B9 q v E x k A B ⟨h1, h2, h3, h4, h5⟩ w h ht he hT hn hv
theorem TV.upd20 {S : Nat → Prop} {w w' : World} {B q : Nat} {v : Value} {L E : List Hs} (h : TV w B q v L E) (u : Upd S w w') (hq : ¬ S q) (hv : ∀ g, v.ownBlock = some g → ¬ S g) : TV w' B q v L E := ⟨h.box.upd u hq, h.own.upd1 u hv, h.lt, Nat.le_trans h.le u.size⟩
theorem hE_T : yE.T ≠ yH.T := by decide
set_option maxHeartbeats 2000000 in
theorem new20 (w : World) :
    Calls Tryd.prog 6 #[] w fun e w' => e = .returned (.pointer (some ⟨w.heap.size, 0, none⟩)) ∧ TV w' (w.heap.size + 1) w.heap.size (.slice none 0 0) [] (List.replicate 63 zH) ∧ Below w.heap.size w w' ∧ w'.heap.size = w.heap.size + 1 := by
  go_enter Tryd.func6, Tryd.ntmps6
  go_upto_region 0 with fail
  refine wp_region_lit ?_
  refine vl_gen (fun T => Rp T 3 []) (Rp.nil rfl) (fun Z0 q0 => ?_)
  refine q0.t (.pointer none) (ex_assign rfl rfl) fun _ q1 => ?_;clear q0
  refine wpList_nil ?_
  go_upto_region 1 with fail
  refine wp_region_lit ?_
  refine q1.t (.agg (tcs (.slice none 0 0) (List.replicate 63 zH)).toArray) (ex_build rfl (bdT20 _)) fun _ q2 => ?_;clear q1
  obtain ⟨w1, hw1⟩ : ∃ y, y = w.alloc (.cells (tcs (.slice none 0 0) (List.replicate 63 zH)).toArray 56) := ⟨_, rfl⟩
  refine vw (.pointer (some ⟨w.heap.size, 0, none⟩)) w1 (want_none rfl) (ex_box18 rfl (q2.e (j := 1) rfl) (by rw [hw1]; exact bxT20 _ _ _)) rfl q2.z (by decide) (q2.k fun _ q3 => ?_);clear q2
  have B1 : BB w1 w.heap.size 56 (tcs (.slice none 0 0) (List.replicate 63 zH)) := by rw [hw1]; exact BB.new _ _ _
  have b1 : Below w.heap.size w w1 := by rw [hw1]; exact (Below.refl _ _).alloc (Nat.le_refl _) _
  have z1 : w1.heap.size = w.heap.size + 1 := by rw [hw1]; exact World.size_alloc _ _
  clear hw1
  refine q3.t (.pointer (some ⟨w.heap.size, 0, none⟩)) (ex_assign rfl (q3.e (j := 2) rfl)) fun _ q4 => ?_;clear q3
  refine wpList_nil ?_
  go_wp2
  refine bodyPost_ret (results_tmp rfl _ _ _) rfl ?_
  rw [getD_of (q4.a 0 rfl)]
  exact ⟨rfl, tv_new B1 z1, b1, z1⟩
theorem bs1E20 (x : En) (w : World) : (Instr.buildSlice 25 1 #[(0, x.val20)]).run Tryd.prog w = .ok (.slice (some ⟨w.heap.size, 0, none⟩) 1 1) (w.alloc (.cells x.cs.toArray 29)) := by unfold En.val20 En.cs; go_simp
set_option maxHeartbeats 2000000 in
theorem grows20 (S : List Ow) (a : Option Addr) (n c : Nat) (w : World) (h : SlY yW w a n c S) (ht : Tb w) (hn : n ≤ 1954687338211) (hv : ∀ s ∈ S, s.x.o.v.size ≤ 140737488351232) :
    Calls Tryd.prog 3 #[.slice a n c] w fun e w' => e = .returned (.bool true) ∧ Below w.heap.size w w' := by
  go_enter Tryd.func3, Tryd.ntmps3
  go_upto_region 0 with fail
  refine wp_region_lit ?_
  refine vl_gen (fun T => Rp T 69 [(0, gw true (.slice a n c))]) ((Rp.nil rfl).cons rfl) (fun Z0 q0 => ?_)
  have hln := h.len
  refine q0.t (.bool false) (ex_assign rfl rfl) fun _ q1 => ?_;clear q0
  refine wpList_nil ?_
  go_upto_region 1 with fail
  refine wp_region_lit ?_
  refine vcallP (want_none rfl) (ex_call (args := #[]) rfl (by simp) rfl) (new20 w) rfl q1.z (by decide) ?_
  rintro e w1 ⟨rfl, V0, b1, z1⟩
  refine ⟨_, rfl, q1.k fun _ q2 => ?_⟩;clear q1
  refine q2.t (.pointer (some ⟨w.heap.size, 0, none⟩)) (ex_assign rfl (q2.e (j := 6) rfl)) fun _ q3 => ?_;clear q2
  refine wpList_nil ?_
  go_upto_region 2 with fail
  refine wp_region_lit ?_
  refine q3.t (.pointer (some ⟨w.heap.size, 0, none⟩)) (ex_move rfl (q3.e (j := 3) rfl)) fun _ q4 => ?_;clear q3
  refine q4.t (.bool false) (ex_bin (Y := .pointer none) rfl (q4.e (j := 7) rfl) rfl (eqPT20 _ _ _ _)) fun _ q5 => ?_;clear q4
  refine wpList_nil ?_
  go_upto_region 4 with fail
  refine wp_cond_false (q5.e (j := 8) rfl) ?_
  go_upto_region 4 with fail
  refine wp_region_lit ?_
  refine q5.t (.slice none 0 0) (ex_assign rfl rfl) fun _ q6 => ?_;clear q5
  refine wpList_nil ?_
  go_upto_region 5 with fail
  refine wp_region_lit ?_
  refine q6.t (.int .i64 ((0 : Nat) : Int)) (ex_assign rfl rfl) fun _ q7 => ?_;clear q6
  have q8 := (((((Rp.nil q7.z).cons (q7.a 0 rfl)).cons (q7.a 3 rfl)).cons (q7.a 4 rfl)).cons (q7.a 5 rfl))
  clear q7
  refine wpList_nil ?_
  go_upto_region 6 with fail
  refine v_loop 5 n (fun j T wr => ∃ (l : List En) (lv v : Value) (E : List Hs), Rp T 69 [(5, gw true (.int .i64 ((j : Nat) : Int))), (4, gw true lv), (3, gw true (.pointer (some ⟨w.heap.size, 0, none⟩))), (0, gw true (.slice a n c))] ∧ Hid (OwnY yE (w.heap.size + 1) wr lv l ∧ l.length ≤ j ∧ (∀ y ∈ l, y.o.v.size ≤ 140737488351232) ∧ TV wr (w.heap.size + 1) w.heap.size v (l.map lf) E ∧ EdgeOf (l.map lf) E ∧ Below w.heap.size w wr)) (fun j T w h => by obtain ⟨_, _, _, _, h, _⟩ := h; exact h.a 5 rfl) ⟨[], _, _, _, q8, OwnY.nil _ _ _, by simp, by simp, V0, edge_nil, b1⟩ ?_
  clear q8
  intro j T wr hj hh
  obtain ⟨l, lv, v, E, q100, HJ⟩ := hh
  obtain ⟨oL, hlj, hvl, TV1, he1, dr⟩ := HJ.out
  clear HJ
  have zr := dr.size
  obtain ⟨al, cl, hlv, hlc, hlm, hlz, _⟩ := oL.form
  subst hlv
  have sL := oL.sl' kE
  by_cases hit : j < n
  · obtain ⟨s, hs⟩ : ∃ s, S[j]? = some s := ⟨_, List.getElem?_eq_getElem (by omega)⟩
    obtain ⟨qa, oa, hqa, hqal, hl0⟩ := h.place (by rintro rfl; simp at hs)
    have hlie : LieY yW wr qa oa S := hl0.upd (S := fun _ => False) (Upd.of_below dr) hqal id
    have hsv := hv s (List.mem_of_getElem? hs)
    go_upto_region 6 with fail
    refine wp_region_lit ?_
    refine q100.t (.int .i64 ((j : Nat) : Int)) (ex_move rfl (q100.e (j := 5) rfl)) fun _ q101 => ?_;clear q100
    refine q101.t (.slice a n c) (ex_move rfl (q101.e (j := 0) rfl)) fun _ q102 => ?_;clear q101
    refine q102.t (.int .i64 ((n : Nat) : Int)) (ex_lenG rfl rfl Tryd.underlying22 (q102.e (j := 10) rfl)) fun _ q103 => ?_;clear q102
    refine q103.t (.bool true) (ex_bin rfl (q103.e (j := 9) rfl) (q103.e (j := 11) rfl) (ltT _ _ hit _)) fun _ q104 => ?_;clear q103
    refine wpList_nil ?_
    go_upto_region 8 with fail
    refine wp_cond_true (q104.e (j := 12) rfl) ?_
    go_upto_region 8 with fail
    refine wp_region_lit ?_
    refine q104.t (.slice a n c) (ex_move rfl (q104.e (j := 0) rfl)) fun _ q105 => ?_;clear q104
    refine q105.t (.int .i64 ((j : Nat) : Int)) (ex_move rfl (q105.e (j := 5) rfl)) fun _ q106 => ?_;clear q105
    refine q106.t (.pointer (some ⟨qa, oa + j * 8, none⟩)) (ex_ix rfl (q106.e (j := 15) rfl) (q106.e (j := 16) rfl) (by rw [hqa]; exact ixW20 qa oa n c j hit _)) fun _ q107 => ?_;clear q106
    refine q107.t (.pointer (some ⟨qa, oa + j * 8, none⟩)) (ex_fa rfl (q107.e (j := 17) rfl) (faW0 _ _ _)) fun _ q108 => ?_;clear q107
    refine q108.t (.int .i64 s.k) (ex_ld rfl (q108.e (j := 18) rfl) (ldW0 hlie hs)) fun _ q109 => ?_;clear q108
    by_cases hk : s.k = 0
    · refine q109.t (.bool true) (ex_bin (Y := .int .i64 ((0 : Nat) : Int)) rfl (q109.e (j := 19) rfl) rfl (eqT20 _ _ hk _)) fun _ q110 => ?_;clear q109
      refine wpList_nil ?_
      go_upto_region 9 with fail
      refine wp_cond_true (q110.e (j := 20) rfl) ?_
      go_upto_region 9 with fail
      refine wp_region_lit ?_
      refine q110.t (.slice al l.length cl) (ex_move rfl (q110.e (j := 4) rfl)) fun _ q111 => ?_;clear q110
      refine q111.t (.slice a n c) (ex_move rfl (q111.e (j := 0) rfl)) fun _ q112 => ?_;clear q111
      refine q112.t (.int .i64 ((j : Nat) : Int)) (ex_move rfl (q112.e (j := 5) rfl)) fun _ q113 => ?_;clear q112
      refine q113.t (.pointer (some ⟨qa, oa + j * 8, none⟩)) (ex_ix rfl (q113.e (j := 22) rfl) (q113.e (j := 23) rfl) (by rw [hqa]; exact ixW20 qa oa n c j hit _)) fun _ q114 => ?_;clear q113
      refine q114.t (.pointer (some ⟨qa, oa + j * 8 + 1, none⟩)) (ex_fa rfl (q114.e (j := 24) rfl) (faW1 _ _ _)) fun _ q115 => ?_;clear q114
      refine q115.t (s.x.val20) (ex_ld rfl (q115.e (j := 25) rfl) (ldW1 hlie hs)) fun _ q116 => ?_;clear q115
      obtain ⟨r5, hr5⟩ : ∃ z, z = wr.alloc (.cells s.x.cs.toArray 29) := ⟨_, rfl⟩
      refine vw (.slice (some ⟨wr.heap.size, 0, none⟩) 1 1) r5 (want_none rfl) (ex_bs18 rfl (q116.e (j := 26) rfl) (by rw [hr5]; exact bs1E20 _ _)) rfl q116.z (by decide) (q116.k fun _ q117 => ?_);clear q116
      have s5 : SlY yE r5 (some ⟨wr.heap.size, 0, none⟩) 1 1 [s.x] := by rw [hr5]; exact sl_box (Y := yE) wr s.x 29
      have b5 : Below wr.heap.size wr r5 := by rw [hr5]; exact (Below.refl _ _).alloc (Nat.le_refl _) _
      clear hr5
      have y5 := b5.size
      have oL5 := oL.grow b5
      have TV5 := TV1.later b5
      have d5 := dr.trans (b5.mono zr)
      obtain ⟨v6, r6, ha6, o6, g6, hb6⟩ := run_appY kE r5 25 (w.heap.size + 1) l (.slice al l.length cl) _ 1 1 [s.x] s5 oL5 (by have := TV5.le; omega) (by unfold maxLen; omega) (by show (l.length + 1) * 48 ≤ _; omega)
      have u6 := gupd20 g6
      have y6 := u6.size
      have TV6 := TV5.upd20 u6 (fun e => by have := (oL5.blk _ e).1; omega) (fun g hg e => OwnY.apart oL5 TV5.own hE_T g e hg)
      have d6 : Below w.heap.size w r6 := d5.trans (u6.below d5.size (fun k hk => by have := (oL5.blk _ hk).1; omega))
      refine vw (v6) r6 (want_none rfl) (ex_app18 rfl (q117.e (j := 21) rfl) (q117.e (j := 27) rfl) ha6) rfl q117.z (by decide) (q117.k fun _ q118 => ?_);clear q117
      refine q118.t (v6) (ex_assign rfl (q118.e (j := 28) rfl)) fun _ q119 => ?_;clear q118
      refine wpList_nil ?_
      go_upto_region 10 with fail
      refine wp_region_lit ?_
      have hlie6 : LieY yW r6 qa oa S := hl0.upd (S := fun _ => False) (Upd.of_below d6) hqal id
      refine q119.t (.pointer (some ⟨w.heap.size, 0, none⟩)) (ex_move rfl (q119.e (j := 3) rfl)) fun _ q120 => ?_;clear q119
      refine q120.t (.slice a n c) (ex_move rfl (q120.e (j := 0) rfl)) fun _ q121 => ?_;clear q120
      refine q121.t (.int .i64 ((j : Nat) : Int)) (ex_move rfl (q121.e (j := 5) rfl)) fun _ q122 => ?_;clear q121
      refine q122.t (.pointer (some ⟨qa, oa + j * 8, none⟩)) (ex_ix rfl (q122.e (j := 30) rfl) (q122.e (j := 31) rfl) (by rw [hqa]; exact ixW20 qa oa n c j hit _)) fun _ q123 => ?_;clear q122
      refine q123.t (.pointer (some ⟨qa, oa + j * 8 + 1, none⟩)) (ex_fa rfl (q123.e (j := 32) rfl) (faW1 _ _ _)) fun _ q124 => ?_;clear q123
      refine q124.t (s.x.val20) (ex_ld rfl (q124.e (j := 33) rfl) (ldW1 hlie6 hs)) fun _ q125 => ?_;clear q124
      refine vcallP (want_none rfl) (ex_call rfl (by simp only [List.map_toArray, List.map_cons, List.map_nil, (q125.e (j := 29) rfl), (q125.e (j := 34) rfl), evc] <;> rfl) rfl) (add20 _ _ _ _ _ s.x r6 TV6 (by rw [List.length_map]; omega) (by omega)) rfl q125.z (by decide) ?_
      rintro e r7 ⟨rfl, v7, TV7, U7, _⟩
      refine ⟨_, rfl, q125.k fun _ q126 => ?_⟩;clear q125
      have y7 := U7.size
      have o7 : OwnY yE (w.heap.size + 1) r7 v6 (l ++ [s.x]) := o6.upd1 U7 (fun g hg e => by
        rcases e with e | e
        · have := (o6.blk g hg).1; omega
        · exact OwnY.apart o6 TV6.own hE_T g hg e)
      have d7 : Below w.heap.size w r7 := tv_bel TV6 d6 (Nat.le_refl _) U7
      have E7 := edge_add (x := lf s.x) he1 (by rw [List.length_map]; omega)
      rw [List.length_map] at TV7 E7
      have em : l.map lf ++ [lf s.x] = (l ++ [s.x]).map lf := by rw [List.map_append]; rfl
      rw [em] at TV7 E7
      obtain ⟨a7, c7, hv7, _, _, _, _⟩ := o7.form
      subst hv7
      refine q126.t (.slice a7 (l ++ [s.x]).length c7) (ex_move rfl (q126.e (j := 4) rfl)) fun _ q127 => ?_;clear q126
      refine q127.t (.int .i64 (((l ++ [s.x]).length : Nat) : Int)) (ex_lenG rfl rfl Tryd.underlying25 (q127.e (j := 36) rfl)) fun _ q128 => ?_;clear q127
      refine q128.t (.bool false) (ex_bin rfl (q128.e (j := 35) rfl) (q128.e (j := 37) rfl) (neF20 _ _ (by rw [List.length_append, List.length_map]; rfl) _)) fun _ q129 => ?_;clear q128
      refine wpList_nil ?_
      go_upto_region 7 with fail
      refine wp_cond_false (q129.e (j := 38) rfl) ?_
      go_upto_region 7 with fail
      refine wp_region_lit ?_
      refine q129.t (.int .i64 ((j : Nat) : Int)) (ex_move rfl (q129.e (j := 5) rfl)) fun _ q130 => ?_;clear q129
      refine q130.t (.int .i64 ((j + 1 : Nat) : Int)) (ex_bin rfl (q130.e (j := 13) rfl) rfl (add1C _ _ j (by omega) _)) fun _ q131 => ?_;clear q130
      refine q131.t (.int .i64 ((j + 1 : Nat) : Int)) (ex_assign rfl (q131.e (j := 14) rfl)) fun _ q132 => ?_;clear q131
      have q133 := (((((Rp.nil q132.z).cons (q132.a 0 rfl)).cons (q132.a 3 rfl)).cons (q132.a 4 rfl)).cons (q132.a 5 rfl))
      clear q132
      refine wpList_nil ?_
      exact ⟨_, rfl, hit, (l ++ [s.x]), _, v7, _, q133, o7, by rw [List.length_append]; show l.length + 1 ≤ j + 1; omega, fun y hy => (List.mem_append.1 hy).elim (hvl y) (fun e => by rw [List.mem_singleton.1 e]; exact hsv), TV7, E7, d7⟩
    · refine q109.t (.bool false) (ex_bin (Y := .int .i64 ((0 : Nat) : Int)) rfl (q109.e (j := 19) rfl) rfl (eqF20 _ _ hk _)) fun _ q110 => ?_;clear q109
      refine wpList_nil ?_
      go_upto_region 12 with fail
      refine wp_cond_false (q110.e (j := 20) rfl) ?_
      go_upto_region 12 with fail
      refine wp_region_lit ?_
      refine q110.t (.pointer (some ⟨w.heap.size, 0, none⟩)) (ex_move rfl (q110.e (j := 3) rfl)) fun _ q111 => ?_;clear q110
      refine q111.t (.slice al l.length cl) (ex_move rfl (q111.e (j := 4) rfl)) fun _ q112 => ?_;clear q111
      refine q112.t (.slice a n c) (ex_move rfl (q112.e (j := 0) rfl)) fun _ q113 => ?_;clear q112
      refine q113.t (.int .i64 ((j : Nat) : Int)) (ex_move rfl (q113.e (j := 5) rfl)) fun _ q114 => ?_;clear q113
      refine q114.t (.pointer (some ⟨qa, oa + j * 8, none⟩)) (ex_ix rfl (q114.e (j := 41) rfl) (q114.e (j := 42) rfl) (by rw [hqa]; exact ixW20 qa oa n c j hit _)) fun _ q115 => ?_;clear q114
      refine q115.t (oval s.k s.x s.A s.B) (ex_ld rfl (q115.e (j := 43) rfl) (ldW hlie hs)) fun _ q116 => ?_;clear q115
      refine vcallP (want_none rfl) (ex_call rfl (by simp only [List.map_toArray, List.map_cons, List.map_nil, (q116.e (j := 39) rfl), (q116.e (j := 40) rfl), (q116.e (j := 44) rfl), evc] <;> rfl) rfl) (does_any l _ _ _ _ _ v E s.k s.x s.A s.B wr sL TV1 he1 (ht.of_below dr ht.lt) (by omega) hvl) rfl q116.z (by decide) ?_
      rintro e r7 ⟨rfl, b7⟩
      refine ⟨_, rfl, q116.k fun _ q117 => ?_⟩;clear q116
      have y7 := b7.size
      refine q117.t (.bool (!true)) (ex_not rfl (q117.e (j := 45) rfl)) fun _ q118 => ?_;clear q117
      refine wpList_nil ?_
      go_upto_region 7 with fail
      refine wp_cond_false (q118.e (j := 46) rfl) ?_
      go_upto_region 7 with fail
      refine wp_region_lit ?_
      refine q118.t (.int .i64 ((j : Nat) : Int)) (ex_move rfl (q118.e (j := 5) rfl)) fun _ q119 => ?_;clear q118
      refine q119.t (.int .i64 ((j + 1 : Nat) : Int)) (ex_bin rfl (q119.e (j := 13) rfl) rfl (add1C _ _ j (by omega) _)) fun _ q120 => ?_;clear q119
      refine q120.t (.int .i64 ((j + 1 : Nat) : Int)) (ex_assign rfl (q120.e (j := 14) rfl)) fun _ q121 => ?_;clear q120
      have q122 := (((((Rp.nil q121.z).cons (q121.a 0 rfl)).cons (q121.a 3 rfl)).cons (q121.a 4 rfl)).cons (q121.a 5 rfl))
      clear q121
      refine wpList_nil ?_
      exact ⟨_, rfl, hit, l, _, v, E, q122, oL.grow b7, by omega, hvl, TV1.later b7, he1, dr.trans (b7.mono zr)⟩
  · obtain rfl : j = n := by omega
    go_upto_region 6 with fail
    refine wp_region_lit ?_
    refine q100.t (.int .i64 ((j : Nat) : Int)) (ex_move rfl (q100.e (j := 5) rfl)) fun _ q101 => ?_;clear q100
    refine q101.t (.slice a j c) (ex_move rfl (q101.e (j := 0) rfl)) fun _ q102 => ?_;clear q101
    refine q102.t (.int .i64 ((j : Nat) : Int)) (ex_lenG rfl rfl Tryd.underlying22 (q102.e (j := 10) rfl)) fun _ q103 => ?_;clear q102
    refine q103.t (.bool false) (ex_bin rfl (q103.e (j := 9) rfl) (q103.e (j := 11) rfl) (ltF _ _ hit _)) fun _ q104 => ?_;clear q103
    refine wpList_nil ?_
    go_upto_region 14 with fail
    refine wp_cond_false (q104.e (j := 12) rfl) ?_
    go_upto_region 14 with fail
    refine wp_region_lit ?_
    refine q104.t (.pointer (some ⟨w.heap.size, 0, none⟩)) (ex_move rfl (q104.e (j := 3) rfl)) fun _ q105 => ?_;clear q104
    refine q105.t (.slice al l.length cl) (ex_move rfl (q105.e (j := 4) rfl)) fun _ q106 => ?_;clear q105
    refine q106.t (oval 1 yE.z 0 0) (ex_buildP18 (P := #[(0, .int .i64 1)]) rfl (by simp only [List.map_toArray, List.map_cons, List.map_nil, evc] <;> rfl) (bdO0_20 _ _)) fun _ q107 => ?_;clear q106
    refine vcallP (want_none rfl) (ex_call rfl (by simp only [List.map_toArray, List.map_cons, List.map_nil, (q107.e (j := 47) rfl), (q107.e (j := 48) rfl), (q107.e (j := 49) rfl), evc] <;> rfl) rfl) (does_any l _ _ _ _ _ v E 1 yE.z 0 0 wr sL TV1 he1 (ht.of_below dr ht.lt) (by omega) hvl) rfl q107.z (by decide) ?_
    rintro e x1 ⟨rfl, c1⟩
    refine ⟨_, rfl, q107.k fun _ q108 => ?_⟩;clear q107
    have k1 := c1.size
    have d1 := dr.trans (c1.mono zr)
    have TX1 := TV1.later c1
    have sX1 := sL.later c1
    refine q108.t (.bool true) (ex_move rfl (q108.e (j := 50) rfl)) fun _ q109 => ?_;clear q108
    refine vl _ (.pointer (some ⟨w.heap.size, 0, none⟩)) (want_g rfl rfl (q109.a 51 rfl)) (fun hc => ex_move rfl (q109.e (j := 3) rfl)) rfl q109.z (by decide) (q109.k fun _ q110 => ?_);clear q109
    refine vl _ (.slice al l.length cl) (want_g rfl rfl (q110.a 51 rfl)) (fun hc => ex_move rfl (q110.e (j := 4) rfl)) rfl q110.z (by decide) (q110.k fun _ q111 => ?_);clear q110
    refine vl _ (oval 2 yE.z 0 0) (want_g rfl rfl (q111.a 51 rfl)) (fun hc => ex_buildP18 (P := #[(0, .int .i64 2)]) rfl (by simp only [List.map_toArray, List.map_cons, List.map_nil, evc] <;> rfl) (bdO0_20 _ _)) rfl q111.z (by decide) (q111.k fun _ q112 => ?_);clear q111
    refine vcallP (show Region.wanted _ _ = (true && (true == true)) from want_g rfl rfl (q112.a 51 rfl)) (ex_call rfl (by simp only [List.map_toArray, List.map_cons, List.map_nil, (ev (q112.a 52 rfl) rfl), (ev (q112.a 53 rfl) rfl), (ev (q112.a 54 rfl) rfl), evc] <;> rfl) rfl) (does_any l _ _ _ _ _ v E 2 yE.z 0 0 x1 sX1 TX1 he1 (ht.of_below d1 ht.lt) (by omega) hvl) rfl q112.z (by decide) ?_
    rintro e x2 ⟨rfl, c2⟩
    refine ⟨_, rfl, q112.k fun _ q113 => ?_⟩;clear q112
    have k2 := c2.size
    have d2 := d1.trans (c2.mono d1.size)
    have TX2 := TX1.later c2
    have sX2 := sX1.later c2
    refine q113.t (.bool true) (ex_and (z := true) rfl (q113.a 51 rfl) (q113.a 55 rfl) rfl) fun _ q114 => ?_;clear q113
    refine q114.t (.bool true) (ex_move rfl (q114.e (j := 56) rfl)) fun _ q115 => ?_;clear q114
    refine vl _ (.pointer (some ⟨w.heap.size, 0, none⟩)) (want_g rfl rfl (q115.a 57 rfl)) (fun hc => ex_move rfl (q115.e (j := 3) rfl)) rfl q115.z (by decide) (q115.k fun _ q116 => ?_);clear q115
    refine vl _ (.slice al l.length cl) (want_g rfl rfl (q116.a 57 rfl)) (fun hc => ex_move rfl (q116.e (j := 4) rfl)) rfl q116.z (by decide) (q116.k fun _ q117 => ?_);clear q116
    refine vl _ (.slice al l.length cl) (want_g rfl rfl (q117.a 57 rfl)) (fun hc => ex_move rfl (q117.e (j := 4) rfl)) rfl q117.z (by decide) (q117.k fun _ q118 => ?_);clear q117
    refine vl _ (.int .i64 ((l.length : Nat) : Int)) (want_g rfl rfl (q118.a 57 rfl)) (fun hc => ex_lenG rfl rfl Tryd.underlying25 (ev (q118.a 60 rfl) hc)) rfl q118.z (by decide) (q118.k fun _ q119 => ?_);clear q118
    refine vl _ (.int .i64 ((l.length / 2 : Nat) : Int)) (want_g rfl rfl (q119.a 57 rfl)) (fun hc => ex_bin (Y := .int .i64 (2 : Int)) rfl (ev (q119.a 61 rfl) hc) rfl (quo2 _ _ l.length (by omega) _)) rfl q119.z (by decide) (q119.k fun _ q120 => ?_);clear q119
    refine vl _ (oval 3 yE.z ((l.length / 2 : Nat) : Int) 0) (want_g rfl rfl (q120.a 57 rfl)) (fun hc => ex_buildP18 (P := #[(0, .int .i64 3), (2, .int .i64 ((l.length / 2 : Nat) : Int))]) rfl (by simp only [List.map_toArray, List.map_cons, List.map_nil, (ev (q120.a 62 rfl) hc), evc] <;> rfl) (bdO1_20 _ _ _)) rfl q120.z (by decide) (q120.k fun _ q121 => ?_);clear q120
    refine vcallP (show Region.wanted _ _ = (true && (true == true)) from want_g rfl rfl (q121.a 57 rfl)) (ex_call rfl (by simp only [List.map_toArray, List.map_cons, List.map_nil, (ev (q121.a 58 rfl) rfl), (ev (q121.a 59 rfl) rfl), (ev (q121.a 63 rfl) rfl), evc] <;> rfl) rfl) (does_any l _ _ _ _ _ v E 3 yE.z _ 0 x2 sX2 TX2 he1 (ht.of_below d2 ht.lt) (by omega) hvl) rfl q121.z (by decide) ?_
    rintro e x3 ⟨rfl, c3⟩
    refine ⟨_, rfl, q121.k fun _ q122 => ?_⟩;clear q121
    have k3 := c3.size
    have d3 := d2.trans (c3.mono d2.size)
    refine q122.t (.bool true) (ex_and (z := true) rfl (q122.a 57 rfl) (q122.a 64 rfl) rfl) fun _ q123 => ?_;clear q122
    refine q123.t (.bool true) (ex_move rfl (q123.e (j := 65) rfl)) fun _ q124 => ?_;clear q123
    refine vcallP (show Region.wanted _ _ = (true && (true == true)) from want_g rfl rfl (q124.a 66 rfl)) (ex_call (args := #[]) rfl (by simp) rfl) (works20 x3) rfl q124.z (by decide) ?_
    rintro e x4 ⟨rfl, c4⟩
    refine ⟨_, rfl, q124.k fun _ q125 => ?_⟩;clear q124
    have d4 := d3.trans (c4.mono d3.size)
    refine q125.t (.bool true) (ex_and (z := true) rfl (q125.a 66 rfl) (q125.a 67 rfl) rfl) fun _ q126 => ?_;clear q125
    refine q126.t (.bool true) (ex_assign rfl (q126.e (j := 68) rfl)) fun _ q127 => ?_;clear q126
    refine wpList_nil ?_
    go_wp2
    refine bodyPost_ret (results_tmp rfl _ _ _) rfl ?_
    rw [getD_of (q127.a 2 rfl)]
    exact ⟨rfl, d4⟩
end Go.Proofs.YteeofcoehffegaaDoor
namespace Go.Proofs.YteeofcoehffegaaDoor
open Go.ChangeShapes Go.WideShapes Go.ChangeAt Go.RowKit
open Classical
theorem gDb20 : Tryd.prog.globalNamed "math/bits.deBruijn64tab" = some 1 := by kernel_rfl
theorem gDbT20 : (Tryd.prog.globals[1]?).map (·.type) = some 94 := by kernel_rfl
theorem cellsDb20 : Tryd.prog.cellsOf 94 = 64 := by kernel_rfl
theorem cellsU20 : Tryd.prog.cellsOf 5 = 1 := by kernel_rfl
theorem tb_of_laid {W : World} (h : laidMetH Tryd.prog [("math/bits.deBruijn32tab", Rows.laid_math_bits_deBruijn32tab), ("math/bits.deBruijn64tab", Rows.laid_math_bits_deBruijn64tab)] W) : Tb W := by
  rw [MakeChecks.laidMetH_plain _ _ _ (by kernel_rfl)] at h
  have e : (Rows.laid_math_bits_deBruijn64tab : DataW Unit) = Lib.tabData .u8 (Lib.deBruijn64tab.map fun (k : Nat) => (k : Int)) := by kernel_rfl
  have h3 := h.tail
  rw [e] at h3
  have ht := Lib.tabIs_of_head (rest := []) gDb20 gDbT20 Tryd.underlying94 Tryd.underlying5 cellsU20 cellsDb20 h3
  intro j hj
  unfold Lib.TabIs World.var? at ht
  rw [gDb20, Option.bind_some] at ht
  unfold World.cell?
  show (match W.heap[1]? with | some (.cells cs _ _) => cs[j]? | _ => none) = _
  split at ht
  · next cs t f hc =>
    rw [hc]
    have ht := Option.some.inj ht
    subst ht
    show ((Lib.deBruijn64tab.map fun (k : Nat) => (k : Int)).map fun z => Value.int .u8 z).toArray[j]? = _
    rw [List.getElem?_toArray, List.map_map, List.getElem?_map, List.getD_eq_getElem?_getD, List.getElem?_eq_getElem hj]
    rfl
  · cases ht
end Go.Proofs.YteeofcoehffegaaDoor
namespace Go.Proofs.YteeofcoehffegaaDoor
open Go.ChangeShapes Go.WideShapes Go.ChangeAt Go.RowKit
open Classical
theorem cellsW20 : Tryd.prog.cellsOf 31 = 8 := by kernel_rfl
theorem bytesW20 : Tryd.prog.bytesOf 31 = yW.by_ := by kernel_rfl
theorem ow_w20 {H : Type} {enc : TypeId × Value → H} {W : World} {n : Nat} {cs : List Value} {x : DataW H × List MemPlace} (h : DataW.trod enc Tryd.prog W 0 (fun _ => true) true n 31 cs = some x) (hw : ∀ k, k ∈ x.1.weights Tryd.prog 31 → k ≤ reachBytes) :
    ∃ q : Ow, q.x.o.v.size ≤ 140737488351232 ∧ cs = yW.cs q := by
  obtain ⟨xs, k, hk, hxy, hlen, hxl, hf⟩ := DataW.trod_struct Tryd.underlying31 h
  rw [cellsW20] at hlen
  have hxl : xs.length = 4 := hxl
  match xs, hxl, cs, hlen with
  | [y0, y1, y2, y3], _, [v0, v1, v2, v3, v4, v5, v6, v7], _ =>
    have hd : x.1 = .agg ([y0, y1, y2, y3].map Prod.fst) := congrArg Prod.fst hxy
    have g0 := hf 0 _ rfl
    have g1 := hf 1 _ rfl
    have g2 := hf 2 _ rfl
    have g3 := hf 3 _ rfl
    simp [cellsI20, cellsE20] at g0 g1 g2 g3
    obtain ⟨K, hK, hx0, hw0⟩ := DataW.trod_int Tryd.underlying3 g0
    obtain ⟨e, he, hc⟩ := enc_w20 g1 (fun k hk => hw k (by
      rw [hd]
      simp only [DataW.weights, Tryd.underlying31]
      exact DataW.weights_mem_each (j := 1) (t := 29) (d := y1.1) rfl rfl _ hk))
    obtain ⟨A, hA, hx2, hw2⟩ := DataW.trod_int Tryd.underlying3 g2
    obtain ⟨B, hB, hx3, hw3⟩ := DataW.trod_int Tryd.underlying3 g3
    refine ⟨⟨K, e, A, B⟩, he, ?_⟩
    have e0 := (List.cons_eq_cons.1 hK).1
    have e2 := (List.cons_eq_cons.1 hA).1
    have e3 := (List.cons_eq_cons.1 hB).1
    simp [En.cs] at hc
    obtain ⟨c1, c2, c3, c4, c5⟩ := hc
    subst e0 e2 e3 c1 c2 c3 c4 c5
    rfl
def CameOw (W : World) (a : Option Addr) (n c : Nat) : Prop := ∃ P : List Ow, SlY yW W a n c P ∧ (∀ q ∈ P, q.x.o.v.size ≤ 140737488351232) ∧ n * yW.by_ ≤ 140737488351232
theorem open_owsW {H : Type} {enc : TypeId × Value → H} {W : World} {base : Nat} {v : Value} {d : DataW H} {p : List MemPlace} (hv : Value.okWide Tryd.prog W .any base 22 v) (h : DataW.Trod enc Tryd.prog W 0 (fun _ => true) true 22 v d p)
    (hw : ∀ m, m ∈ d.weights Tryd.prog 22 → m ≤ reachBytes) : ∃ a n c, v = .slice a n c ∧ CameOw W a n c := by
  haveI : Inhabited Ow := ⟨⟨0, yE.z, 0, 0⟩⟩
  obtain ⟨a, n, c, rfl⟩ := okWide_slice Tryd.underlying22 hv
  obtain ⟨fuel, h⟩ := h
  simp only [Value.cells] at h
  obtain ⟨a2, n2, c2, e, P, s, f, hb⟩ := rows_w20 kW (fun q : Ow => q.x.o.v.size ≤ 140737488351232) cellsW20 bytesW20 (fun {m cs D q} h hw => ow_w20 h hw) h hw
  cases e
  exact ⟨a, n, c, rfl, P, s, f, hb⟩
theorem grows_cameW (a : Option Addr) (n c : Nat) (W : World) (h : CameOw W a n c) (ht : Tb W) :
    Calls Tryd.prog 3 #[.slice a n c] W fun e W' => e = .returned (.bool true) ∧ Below W.heap.size W W' := by
  obtain ⟨P, s, f, hb⟩ := h
  have hb : n * 72 ≤ 140737488351232 := hb
  exact grows20 P a n c W s ht (by omega) f
end Go.Proofs.YteeofcoehffegaaDoor
