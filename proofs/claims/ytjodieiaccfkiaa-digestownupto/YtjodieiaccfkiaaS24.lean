import Derived.Test.YtjodieiaccfkiaaS17
import Derived.Test.YtjodieiaccfkiaaS23
namespace Go.Proofs.Ytjodieiaccfkiaa
open Go.RowKit Go.Maps
open Classical
set_option linter.unusedVariables false
set_option linter.unusedSimpArgs false

theorem flB_by {l : List (SV Int)} (h : ∀ x ∈ l, ∀ y ∈ x.D, (0 : Int) ≤ y ∧ y < 256) : ∀ y ∈ flB l, (0 : Int) ≤ y ∧ y < 256 := fun y hy => by
  unfold flB at hy
  obtain ⟨x, hx, hyx⟩ := List.mem_flatMap.1 hy
  exact h x hx y hyx
set_option maxRecDepth 100000 in
set_option maxHeartbeats 2000000 in
theorem rjoin19 (l : List (SV Int)) (a : Option Addr) (c : Nat) (w : World) (h : SlY zB9 w a l.length c l) (hp : ∀ x ∈ l, SlY yB9 w x.a x.D.length x.c x.D) (hl : (flB l).length ≤ 140737488350000) (hll : l.length < 4611686018427387000) (hby : ∀ x ∈ l, ∀ y ∈ x.D, (0 : Int) ≤ y ∧ y < 256) :
    Calls Try.prog 12 #[.slice a l.length c] w fun e w' => e = .returned (.agg ((sumF (flB l)).map bV).toArray) ∧ Below w.heap.size w w' := by
  go_enter Try.func12, Try.ntmps12
  go_upto_region 0 with fail
  refine wp_region_lit ?_
  refine vl_gen (fun T => Rp T 19 [(0, gw true (.slice a l.length c))]) ((Rp.nil rfl).cons rfl) (fun Z0 q0 => ?_)
  obtain ⟨w1, hw1⟩ : ∃ y, y = w.alloc (.cells ((List.replicate 32 (0 : Int)).map bV).toArray 32) := ⟨_, rfl⟩
  refine vw (.pointer (some ⟨w.heap.size, 0, none⟩)) w1 (want_none rfl) (ex_al rfl (by rw [hw1]; exact alH _)) rfl q0.z (by decide) (q0.k fun _ q1 => ?_);clear q0
  have Bw1 : BB w1 w.heap.size 32 ((List.replicate 32 (0 : Int)).map bV) := by rw [hw1]; exact BB.new _ _ _
  have bw1 : Below w.heap.size w w1 := by rw [hw1]; exact (Below.refl _ _).alloc (Nat.le_refl _) _
  have zw1 : w1.heap.size = w.heap.size + 1 := by rw [hw1]; exact World.size_alloc _ _
  clear hw1
  refine wpList_nil ?_
  go_upto_region 1 with fail
  refine wp_region_lit ?_
  refine q1.t (.slice none 0 0) (ex_assign rfl rfl) fun _ q2 => ?_;clear q1
  refine wpList_nil ?_
  go_upto_region 2 with fail
  refine wp_region_lit ?_
  refine q2.t (.int .i64 ((0 : Nat) : Int)) (ex_assign rfl rfl) fun _ q3 => ?_;clear q2
  have q4 := (((((Rp.nil q3.z).cons (q3.a 0 rfl)).cons (q3.a 2 rfl)).cons (q3.a 3 rfl)).cons (q3.a 4 rfl))
  clear q3
  refine wpList_nil ?_
  go_upto_region 3 with fail
  refine v_loop 4 l.length (fun j T wr => ∃ v, Rp T 19 [(4, gw true (.int .i64 ((j : Nat) : Int))), (3, gw true v), (2, gw true (.pointer (some ⟨w.heap.size, 0, none⟩))), (0, gw true (.slice a l.length c))] ∧ Hid (OwnY yB9 (w.heap.size + 1) wr v (flB (l.take j)) ∧ BB wr w.heap.size 32 ((List.replicate 32 (0 : Int)).map bV) ∧ Below w.heap.size w wr)) (fun j T w h => by obtain ⟨v, h, _⟩ := h; exact h.a 4 rfl) ⟨_, q4, (by rw [List.take_zero]; exact OwnY.nil _ _ _), Bw1, bw1⟩ ?_
  clear q4 Bw1 bw1 zw1
  intro j T wr hj hh
  obtain ⟨v, q100, HJ⟩ := hh
  obtain ⟨ov, B2, br⟩ := HJ.out
  clear HJ
  have zr2 := B2.lt
  by_cases hit : j < l.length
  · obtain ⟨x, hx⟩ : ∃ x, l[j]? = some x := ⟨_, List.getElem?_eq_getElem hit⟩
    have hua := flB_at hx
    have hle := flB_le l (j + 1)
    rw [hua, List.length_append] at hle
    obtain ⟨qa, oa, hqa, hqal, hlie⟩ := h.place (by rintro rfl; simp at hit)
    have hcx : wr.cell? ⟨qa, oa + j, none⟩ = some (.slice x.a x.D.length x.c) := by
      have := (br.cell (p := ⟨qa, oa + j * zB9.k + 0, none⟩) hqal).trans (hlie j x hx 0 _ rfl)
      simpa [zB9, yS] using this
    have hxs := hp x (List.mem_of_getElem? hx)
    have hxr := hxs.on br (Nat.le_refl _)
    go_upto_region 3 with fail
    refine wp_region_lit ?_
    refine q100.t (.int .i64 ((j : Nat) : Int)) (ex_move rfl (q100.e (j := 4) rfl)) fun _ q101 => ?_;clear q100
    refine q101.t (.slice a l.length c) (ex_move rfl (q101.e (j := 0) rfl)) fun _ q102 => ?_;clear q101
    refine q102.t (.int .i64 ((l.length : Nat) : Int)) (ex_lenG rfl rfl Try.underlying23 (q102.e (j := 6) rfl)) fun _ q103 => ?_;clear q102
    refine q103.t (.bool true) (ex_bin rfl (q103.e (j := 5) rfl) (q103.e (j := 7) rfl) (ltT _ _ hit _)) fun _ q104 => ?_;clear q103
    refine wpList_nil ?_
    go_upto_region 5 with fail
    refine wp_cond_true (q104.e (j := 8) rfl) ?_
    go_upto_region 5 with fail
    refine wp_region_lit ?_
    refine q104.t (v) (ex_move rfl (q104.e (j := 3) rfl)) fun _ q105 => ?_;clear q104
    refine q105.t (.slice a l.length c) (ex_move rfl (q105.e (j := 0) rfl)) fun _ q106 => ?_;clear q105
    refine q106.t (.int .i64 ((j : Nat) : Int)) (ex_move rfl (q106.e (j := 4) rfl)) fun _ q107 => ?_;clear q106
    refine q107.t (.pointer (some ⟨qa, (oa + j), none⟩)) (ex_ix rfl (q107.e (j := 12) rfl) (q107.e (j := 13) rfl) (by rw [hqa]; exact ixBB qa oa l.length c j hit _)) fun _ q108 => ?_;clear q107
    refine q108.t (.slice x.a x.D.length x.c) (ex_ld rfl (q108.e (j := 14) rfl) (ldBs hcx)) fun _ q109 => ?_;clear q108
    obtain ⟨v3, r3, ha3, o3, g3, n3⟩ := run_appY kB9 wr 22 (w.heap.size + 1) (flB (l.take j)) v x.a x.D.length x.c x.D hxr ov (by omega) (by unfold maxLen; omega) (by show ((flB (l.take j)).length + x.D.length) * 1 ≤ _; omega)
    rw [← hua] at o3
    have uA := updG g3
    have B3 := B2.upd uA (fun e => by have := (ov.blk _ e).1; omega)
    have b3 : Below w.heap.size w r3 := br.grown g3 br.size (fun k hk => by have := (ov.blk k hk).1; omega)
    refine vw (v3) r3 (want_none rfl) (ex_app18 rfl (q109.e (j := 11) rfl) (q109.e (j := 15) rfl) ha3) rfl q109.z (by decide) (q109.k fun _ q110 => ?_);clear q109
    refine q110.t (v3) (ex_assign rfl (q110.e (j := 16) rfl)) fun _ q111 => ?_;clear q110
    have q112 := (((((Rp.nil q111.z).cons (q111.a 0 rfl)).cons (q111.a 2 rfl)).cons (q111.a 3 rfl)).cons (q111.a 4 rfl))
    clear q111
    refine wpList_nil ?_
    go_upto_region 4 with fail
    refine wp_region_lit ?_
    refine q112.t (.int .i64 ((j : Nat) : Int)) (ex_move rfl (q112.e (j := 4) rfl)) fun _ q113 => ?_;clear q112
    refine q113.t (.int .i64 ((j + 1 : Nat) : Int)) (ex_bin rfl (q113.e (j := 9) rfl) rfl (add1C _ _ j (by omega) _)) fun _ q114 => ?_;clear q113
    refine q114.t (.int .i64 ((j + 1 : Nat) : Int)) (ex_assign rfl (q114.e (j := 10) rfl)) fun _ q115 => ?_;clear q114
    have q116 := (((((Rp.nil q115.z).cons (q115.a 0 rfl)).cons (q115.a 2 rfl)).cons (q115.a 3 rfl)).cons (q115.a 4 rfl))
    clear q115
    refine wpList_nil ?_
    exact ⟨_, rfl, hit, v3, q116, o3, B3, b3⟩
  · obtain rfl : j = l.length := by omega
    rw [List.take_length] at ov
    go_upto_region 3 with fail
    refine wp_region_lit ?_
    refine q100.t (.int .i64 ((l.length : Nat) : Int)) (ex_move rfl (q100.e (j := 4) rfl)) fun _ q101 => ?_;clear q100
    refine q101.t (.slice a l.length c) (ex_move rfl (q101.e (j := 0) rfl)) fun _ q102 => ?_;clear q101
    refine q102.t (.int .i64 ((l.length : Nat) : Int)) (ex_lenG rfl rfl Try.underlying23 (q102.e (j := 6) rfl)) fun _ q103 => ?_;clear q102
    refine q103.t (.bool false) (ex_bin rfl (q103.e (j := 5) rfl) (q103.e (j := 7) rfl) (ltF _ _ hit _)) fun _ q104 => ?_;clear q103
    refine wpList_nil ?_
    go_upto_region 6 with fail
    refine wp_cond_false (q104.e (j := 8) rfl) ?_
    go_upto_region 6 with fail
    refine wp_region_lit ?_
    obtain ⟨a9, c9, hv9, s9, _⟩ := ov.sl kB9
    refine q104.t (.slice a9 (flB l).length c9) (ex_move rfl ((q104.e (j := 3) rfl).trans hv9)) fun _ q105 => ?_;clear q104
    refine vcallP (want_none rfl) (ex_call rfl (by simp only [List.map_toArray, List.map_cons, List.map_nil, (q105.e (j := 17) rfl), evc] <;> rfl) rfl) (rsum19 (flB l) a9 c9 wr s9 (by omega) (flB_by hby)) rfl q105.z (by decide) ?_
    rintro e v1 ⟨rfl, bv⟩
    refine ⟨_, rfl, q105.k fun _ q106 => ?_⟩;clear q105
    have B3 := B2.later bv
    have bw : Below w.heap.size w v1 := br.trans (bv.mono br.size)
    obtain ⟨v3, hv3⟩ : ∃ y, y = v1.setCells w.heap.size 0 ((sumF (flB l)).map bV) := ⟨_, rfl⟩
    refine vs v3 (want_none rfl) (ex_st rfl (q106.e (j := 2) rfl) (q106.e (j := 18) rfl) (by rw [hv3]; exact B3.st 32 _ (by rw [sum_m]; rfl) (by rw [List.size_toArray, sum_m]; exact i32h) (one_b _))) rfl ?_
    have Bv3 : BB v3 w.heap.size 32 ((sumF (flB l)).map bV) := by rw [hv3]; exact B3.whole _ (by rw [sum_m]; rfl)
    have uv3 : Upd (fun k => k = w.heap.size) v1 v3 := by rw [hv3]; exact upd18 _ _ _ _
    clear hv3
    have b3 : Below w.heap.size w v3 := bw.trans (bel_ge uv3 bw.size (Nat.le_refl _))
    refine wpList_nil ?_
    go_wp2
    exact Bv3.res rfl (q106.a 2 rfl) Try.underlying32 rfl (by rw [sum_m]; exact i32h) ⟨rfl, b3⟩

end Go.Proofs.Ytjodieiaccfkiaa
