import Derived.Test.YtomiifnhcojilaaS22
namespace Go.Proofs.Ytomiifnhcojilaa
open Go.RowKit Go.Maps
open Classical
set_option linter.unusedVariables false
set_option linter.unusedSimpArgs false

theorem slMid (q o n c i m k : Nat) (hk : k = i + m) (h : i + m ≤ c) (hm : 0 < m) (w : World) : (Instr.sliceAt 73 (.slice (some ⟨q, o, none⟩) n c) (some (.int .i64 (i : Int))) (some (.int .i64 (k : Int))) none).run Try.prog w = .ok (.slice (some (adB q o c i)) m (c - i)) w := by
  have e1 : (0 : Int) ≤ (i : Int) := by omega
  have e2 : (i : Int) ≤ (k : Int) := by omega
  have e3 : (k : Int) ≤ (c : Int) := by omega
  have e4 : ¬ c = i := by omega
  have e6 : i ≤ k := by omega
  have e5 : m = k - i := by omega
  unfold adB
  rw [if_neg e4, e5]
  clear hk h hm e5
  go_simp
  first | done | simp [e4, e6]
theorem fill_by (n : Nat) : ∀ x ∈ fill n, (0 : Int) ≤ x ∧ x < 256 := by
  intro x hx
  unfold fill lenB at hx
  rw [List.mem_append, List.mem_append] at hx
  rcases hx with (hx | hx) | hx
  · rw [List.mem_singleton] at hx
    omega
  · have := List.eq_of_mem_replicate hx
    omega
  · rw [List.mem_map] at hx
    obtain ⟨i, _, rfl⟩ := hx
    rw [IntKind.wrap_u8]
    omega
theorem getD_by {l : List Int} (h : ∀ x ∈ l, (0 : Int) ≤ x ∧ x < 256) (i : Nat) : 0 ≤ l.getD i 0 ∧ l.getD i 0 < 256 := by
  rw [List.getD_eq_getElem?_getD]
  cases e : l[i]? with
  | none => simp
  | some x => exact h x (List.mem_of_getElem? e)
theorem lst_by {l : List Int} (h : ∀ x ∈ l, (0 : Int) ≤ x ∧ x < 256) (i k : Nat) : ∀ x ∈ (l.drop i).take k, (0 : Int) ≤ x ∧ x < 256 := fun x hx => h x (List.mem_of_mem_drop (List.mem_of_mem_take hx))
theorem stF_next (F : List Int) (M j : Nat) (hF : F.length = 64 * M) (hj : j < M) : stF (F.take (64 * (j + 1))) = blkF (stF (F.take (64 * j))) ((F.drop (64 * j)).take 64) := by
  rw [show 64 * (j + 1) = 64 * j + 64 by omega, List.take_add]
  refine stF_block _ _ ?_ ?_
  · rw [List.length_take, Nat.min_eq_left (by omega)]
    omega
  · rw [List.length_take, List.length_drop]
    omega
def dn9 (n : Nat) : Value → Nat
  | .int _ z => (n - z.toNat) / 64
  | _ => 0
set_option maxRecDepth 100000 in
set_option maxHeartbeats 2000000 in
theorem rsum19 (b : List Int) (a : Option Addr) (c : Nat) (w : World) (h : SlY yB9 w a b.length c b) (hl : b.length ≤ 140737488350000) (hby : ∀ x ∈ b, (0 : Int) ≤ x ∧ x < 256) :
    Calls Try.prog 41 #[.slice a b.length c] w fun e w' => e = .returned (.agg ((sumF b).map bV).toArray) ∧ Below w.heap.size w w' := by
  go_enter Try.func41, Try.ntmps41
  go_upto_region 0 with fail
  refine wp_region_lit ?_
  refine vl_gen (fun T => Rp T 46 [(0, gw true (.slice a b.length c))]) ((Rp.nil rfl).cons rfl) (fun Z0 q0 => ?_)
  obtain ⟨w1, hw1⟩ : ∃ y, y = w.alloc (.cells ((List.replicate 32 (0 : Int)).map bV).toArray 24) := ⟨_, rfl⟩
  refine vw (.pointer (some ⟨w.heap.size, 0, none⟩)) w1 (want_none rfl) (ex_al rfl (by rw [hw1]; exact alH _)) rfl q0.z (by decide) (q0.k fun _ q1 => ?_);clear q0
  have Bw1 : BB w1 w.heap.size 24 ((List.replicate 32 (0 : Int)).map bV) := by rw [hw1]; exact BB.new _ _ _
  have bw1 : Below w.heap.size w w1 := by rw [hw1]; exact (Below.refl _ _).alloc (Nat.le_refl _) _
  have zw1 : w1.heap.size = w.heap.size + 1 := by rw [hw1]; exact World.size_alloc _ _
  clear hw1
  refine wpList_nil ?_
  go_upto_region 1 with fail
  refine wp_region_lit ?_
  obtain ⟨w2, hw2⟩ : ∃ y, y = w1.alloc (.cells (iv.l.map uV).toArray 103) := ⟨_, rfl⟩
  refine vw (.slice (some ⟨w1.heap.size, 0, none⟩) 8 8) w2 (want_none rfl) (ex_bs8 rfl rfl rfl rfl rfl rfl rfl rfl rfl (by rw [hw2]; exact bs8U iv _)) rfl q1.z (by decide) (q1.k fun _ q2 => ?_);clear q1
  have B2 : BB w2 w1.heap.size 103 (iv.l.map uV) := by rw [hw2]; exact BB.new _ _ _
  have b2 : Below w1.heap.size w1 w2 := by rw [hw2]; exact (Below.refl _ _).alloc (Nat.le_refl _) _
  have z2 := b2.size
  clear hw2
  have d2 : Below w.heap.size w w2 := bw1.trans (b2.mono (by omega))
  have s2 : SlY yU9 w2 (some ⟨w1.heap.size, 0, none⟩) 8 8 iv.l := B2.slu (L := iv.l) (by show (8 : Nat) ≤ maxLen; unfold maxLen; decide)
  refine q2.t (.slice (some ⟨w1.heap.size, 0, none⟩) 8 8) (ex_assign rfl (q2.e (j := 9) rfl)) fun _ q3 => ?_;clear q2
  have q4 := ((((Rp.nil q3.z).cons (q3.a 0 rfl)).cons (q3.a 2 rfl)).cons (q3.a 3 rfl))
  clear q3
  refine wpList_nil ?_
  go_upto_region 2 with fail
  refine wp_region_lit ?_
  refine q4.t (.slice a b.length c) (ex_move rfl (q4.e (j := 0) rfl)) fun _ q5 => ?_;clear q4
  refine vcallP (want_none rfl) (ex_call rfl (by simp only [List.map_toArray, List.map_cons, List.map_nil, (q5.e (j := 10) rfl), evc] <;> rfl) rfl) (filled19 b a c w2 (h.on d2 (Nat.le_refl _)) hl) rfl q5.z (by decide) ?_
  rintro e w3 ⟨v3, rfl, o3, b3⟩
  refine ⟨_, rfl, q5.k fun _ q6 => ?_⟩;clear q5
  have z3 := b3.size
  have s3 := s2.later b3
  obtain ⟨F, hF⟩ : ∃ F, F = b ++ fill b.length := ⟨_, rfl⟩
  rw [← hF] at o3
  have hFm : F.length % 64 = 0 := by rw [hF, List.length_append]; exact fill_mod _
  have hFp : 0 < F.length := by rw [hF, List.length_append, fill_len]; omega
  have hFl : F.length ≤ 140737488351000 := by have hzr : zr b.length < 64 := Nat.mod_lt _ (by decide); rw [hF, List.length_append, fill_len]; omega
  obtain ⟨M, hM⟩ : ∃ M, F.length = 64 * M := ⟨F.length / 64, by omega⟩
  have hFb : ∀ x ∈ F, (0 : Int) ≤ x ∧ x < 256 := fun x hx => by
    rw [hF, List.mem_append] at hx
    exact hx.elim (hby x) (fill_by _ x)
  obtain ⟨af, cf, hvf, sF, _⟩ := o3.sl kB9
  subst hvf
  refine q6.t (.slice af F.length cf) (ex_assign rfl (q6.e (j := 11) rfl)) fun _ q7 => ?_;clear q6
  have q8 := ((((Rp.nil q7.z).cons (q7.a 2 rfl)).cons (q7.a 3 rfl)).cons (q7.a 4 rfl))
  clear q7
  refine wpList_nil ?_
  go_upto_region 3 with fail
  refine wp_region_lit ?_
  refine vcallP (want_none rfl) (ex_call (args := #[]) rfl (by simp) rfl) (table19 w3) rfl q8.z (by decide) ?_
  rintro e w4 ⟨v4, rfl, o4, b4⟩
  refine ⟨_, rfl, q8.k fun _ q9 => ?_⟩;clear q8
  have z4 := b4.size
  have s4 := s3.later b4
  have sF := sF.later b4
  obtain ⟨ak, ck, hvk, sK, _⟩ := o4.sl kU9
  subst hvk
  have d4 : Below w.heap.size w w4 := (d2.trans (b3.mono (by omega))).trans (b4.mono (by omega))
  have Bh4 := ((Bw1.later b2).later b3).later b4
  have hkl : kT9.length = 64 := rfl
  rw [hkl] at sK
  obtain ⟨qf, of, ea, hqf, _⟩ := sF.place (by rintro rfl; simp at hFp)
  subst ea
  clear o3 o4 s3 s2 B2 Bw1
  have hcf := sF.cap
  refine q9.t (.slice ak 64 ck) (ex_assign rfl (q9.e (j := 12) rfl)) fun _ q10 => ?_;clear q9
  have q11 := (((((Rp.nil q10.z).cons (q10.a 2 rfl)).cons (q10.a 3 rfl)).cons (q10.a 4 rfl)).cons (q10.a 5 rfl))
  clear q10
  refine wpList_nil ?_
  go_upto_region 4 with fail
  refine wp_region_lit ?_
  refine q11.t (.int .i64 ((64 * 0 : Nat) : Int)) (ex_assign rfl rfl) fun _ q12 => ?_;clear q11
  have q13 := ((((((Rp.nil q12.z).cons (q12.a 2 rfl)).cons (q12.a 3 rfl)).cons (q12.a 4 rfl)).cons (q12.a 5 rfl)).cons (q12.a 6 rfl))
  clear q12
  refine wpList_nil ?_
  go_upto_region 5 with fail
  refine v_loopX (fun T => dn9 F.length (T.getD 6 undef)) M (fun j T wr => ∃ g, Rp T 46 [(6, gw true (.int .i64 ((64 * j : Nat) : Int))), (5, gw true (.slice ak 64 ck)), (4, gw true (.slice (some ⟨qf, of, none⟩) F.length cf)), (3, gw true (.slice (some ⟨g, 0, none⟩) 8 8)), (2, gw true (.pointer (some ⟨w.heap.size, 0, none⟩)))] ∧ Hid (SlY yU9 wr (some ⟨g, 0, none⟩) 8 8 (stF (F.take (64 * j))).l ∧ Below w4.heap.size w4 wr)) (fun j T w hh => by
    obtain ⟨g, hr, hH⟩ := hh
    rw [hr.get rfl]
    simp only [dn9, gw, Int.toNat_natCast]
    omega) ⟨w1.heap.size, q13, (by rw [Nat.mul_zero, List.take_zero]; exact s4), Below.refl _ _⟩ ?_
  clear q13 s4
  intro j T wr hj hh
  obtain ⟨g, q100, HJ⟩ := hh
  obtain ⟨hs, br⟩ := HJ.out
  clear HJ
  have zr4 := br.size
  by_cases hit : j < M
  · go_upto_region 5 with fail
    refine wp_region_lit ?_
    refine q100.t (.int .i64 ((64 * j : Nat) : Int)) (ex_move rfl (q100.e (j := 6) rfl)) fun _ q101 => ?_;clear q100
    refine q101.t (.slice (some ⟨qf, of, none⟩) F.length cf) (ex_move rfl (q101.e (j := 4) rfl)) fun _ q102 => ?_;clear q101
    refine q102.t (.int .i64 ((F.length : Nat) : Int)) (ex_lenG rfl rfl Try.underlying73 (q102.e (j := 14) rfl)) fun _ q103 => ?_;clear q102
    refine q103.t (.bool true) (ex_bin rfl (q103.e (j := 13) rfl) (q103.e (j := 15) rfl) (ltT _ _ (show 64 * j < F.length by omega) _)) fun _ q104 => ?_;clear q103
    refine wpList_nil ?_
    go_upto_region 7 with fail
    refine wp_cond_true (q104.e (j := 16) rfl) ?_
    go_upto_region 7 with fail
    refine wp_region_lit ?_
    refine q104.t (.slice (some ⟨g, 0, none⟩) 8 8) (ex_move rfl (q104.e (j := 3) rfl)) fun _ q105 => ?_;clear q104
    refine q105.t (.slice (some ⟨qf, of, none⟩) F.length cf) (ex_move rfl (q105.e (j := 4) rfl)) fun _ q106 => ?_;clear q105
    refine q106.t (.int .i64 ((64 * j : Nat) : Int)) (ex_move rfl (q106.e (j := 6) rfl)) fun _ q107 => ?_;clear q106
    refine q107.t (.int .i64 ((64 * j : Nat) : Int)) (ex_move rfl (q107.e (j := 6) rfl)) fun _ q108 => ?_;clear q107
    refine q108.t (.int .i64 ((64 * j + 64 : Nat) : Int)) (ex_bin rfl (q108.e (j := 22) rfl) rfl (addC9 _ _ (64 * j) 64 (by omega) _)) fun _ q109 => ?_;clear q108
    refine q109.t (.slice (some (adB qf of cf (64 * j))) 64 (cf - 64 * j)) (ex_sl19 rfl (q109.e (j := 20) rfl) (congrArg some (q109.e (j := 21) rfl)) (congrArg some (q109.e (j := 23) rfl)) rfl (slMid qf of F.length cf (64 * j) 64 (64 * j + 64) rfl (by omega) (by decide) _)) fun _ q110 => ?_;clear q109
    refine q110.t (.slice ak 64 ck) (ex_move rfl (q110.e (j := 5) rfl)) fun _ q111 => ?_;clear q110
    have sB := ((sF.later br).from9 (64 * j) (by omega)).take 64 (by omega)
    have hsl : ((F.drop (64 * j)).take 64).length = 64 := by rw [List.length_take, List.length_drop]; omega
    refine vcallP (want_none rfl) (ex_call rfl (by simp only [List.map_toArray, List.map_cons, List.map_nil, (q111.e (j := 19) rfl), (q111.e (j := 24) rfl), (q111.e (j := 25) rfl), evc] <;> rfl) rfl) (block19 (stF (F.take (64 * j))) (some ⟨g, 0, none⟩) 8 ((F.drop (64 * j)).take 64) (some (adB qf of cf (64 * j))) (cf - 64 * j) ak ck wr hs sB (sK.later br) hsl (getD_by (lst_by hFb _ _))) rfl q111.z (by decide) ?_
    rintro e w5 ⟨g5, rfl, s5, b5⟩
    refine ⟨_, rfl, q111.k fun _ q112 => ?_⟩;clear q111
    rw [← stF_next F M j hM hit] at s5
    have e5 : Below w4.heap.size w4 w5 := br.trans (b5.mono zr4)
    refine q112.t (.slice (some ⟨g5, 0, none⟩) 8 8) (ex_assign rfl (q112.e (j := 26) rfl)) fun _ q113 => ?_;clear q112
    have q114 := ((((((Rp.nil q113.z).cons (q113.a 2 rfl)).cons (q113.a 3 rfl)).cons (q113.a 4 rfl)).cons (q113.a 5 rfl)).cons (q113.a 6 rfl))
    clear q113
    refine wpList_nil ?_
    go_upto_region 6 with fail
    refine wp_region_lit ?_
    refine q114.t (.int .i64 ((64 * j : Nat) : Int)) (ex_move rfl (q114.e (j := 6) rfl)) fun _ q115 => ?_;clear q114
    refine q115.t (.int .i64 ((64 * j + 64 : Nat) : Int)) (ex_bin rfl (q115.e (j := 17) rfl) rfl (addC9 _ _ (64 * j) 64 (by omega) _)) fun _ q116 => ?_;clear q115
    rw [show 64 * j + 64 = 64 * (j + 1) by omega] at q116
    refine q116.t (.int .i64 ((64 * (j + 1) : Nat) : Int)) (ex_assign rfl (q116.e (j := 18) rfl)) fun _ q117 => ?_;clear q116
    have q118 := ((((((Rp.nil q117.z).cons (q117.a 2 rfl)).cons (q117.a 3 rfl)).cons (q117.a 4 rfl)).cons (q117.a 5 rfl)).cons (q117.a 6 rfl))
    clear q117
    refine wpList_nil ?_
    exact ⟨_, rfl, hit, g5, q118, s5, e5⟩
  · obtain rfl : j = M := by omega
    rw [← hM, List.take_length] at hs
    have Bh5 := Bh4.later br
    have d5 : Below w.heap.size w wr := d4.trans (br.mono (by omega))
    obtain ⟨s, hsv⟩ : ∃ s, s = stF F := ⟨_, rfl⟩
    rw [← hsv] at hs
    go_upto_region 5 with fail
    refine wp_region_lit ?_
    refine q100.t (.int .i64 ((64 * j : Nat) : Int)) (ex_move rfl (q100.e (j := 6) rfl)) fun _ q101 => ?_;clear q100
    refine q101.t (.slice (some ⟨qf, of, none⟩) F.length cf) (ex_move rfl (q101.e (j := 4) rfl)) fun _ q102 => ?_;clear q101
    refine q102.t (.int .i64 ((F.length : Nat) : Int)) (ex_lenG rfl rfl Try.underlying73 (q102.e (j := 14) rfl)) fun _ q103 => ?_;clear q102
    refine q103.t (.bool false) (ex_bin rfl (q103.e (j := 13) rfl) (q103.e (j := 15) rfl) (ltF _ _ (show ¬ 64 * j < F.length by omega) _)) fun _ q104 => ?_;clear q103
    refine wpList_nil ?_
    go_upto_region 8 with fail
    refine wp_cond_false (q104.e (j := 16) rfl) ?_
    go_upto_region 8 with fail
    refine wp_region_lit ?_
    have q105 := (((Rp.nil q104.z).cons (q104.a 2 rfl)).cons (q104.a 3 rfl))
    clear q104
    obtain ⟨w6, hw6⟩ : ∃ y, y = wr.alloc (.cells ((List.replicate 32 (0 : Int)).map bV).toArray 24) := ⟨_, rfl⟩
    refine vw (.pointer (some ⟨wr.heap.size, 0, none⟩)) w6 (want_none rfl) (ex_al rfl (by rw [hw6]; exact alH _)) rfl q105.z (by decide) (q105.k fun _ q106 => ?_);clear q105
    have Bw6 : BB w6 wr.heap.size 24 ((List.replicate 32 (0 : Int)).map bV) := by rw [hw6]; exact BB.new _ _ _
    have bw6 : Below wr.heap.size wr w6 := by rw [hw6]; exact (Below.refl _ _).alloc (Nat.le_refl _) _
    have zw6 : w6.heap.size = wr.heap.size + 1 := by rw [hw6]; exact World.size_alloc _ _
    clear hw6
    have hs6 := hs.later bw6
    have Bh6 := Bh5.later bw6
    have d6 : Below w.heap.size w w6 := d5.trans (bw6.mono d5.size)
    have hwr : w.heap.size < wr.heap.size := Bh5.lt
    obtain ⟨k, hk⟩ : ∃ k, k = wr.heap.size := ⟨_, rfl⟩
    rw [← hk] at q106 Bw6 hwr
    refine wpList_nil ?_
    go_upto_region 9 with fail
    refine wp_region_lit ?_
    refine q106.t (.int .i64 ((0 : Nat) : Int)) (ex_assign rfl rfl) fun _ q107 => ?_;clear q106
    have q108 := (((((Rp.nil q107.z).cons (q107.a 2 rfl)).cons (q107.a 3 rfl)).cons (q107.a 7 rfl)).cons (q107.a 8 rfl))
    clear q107
    refine wpList_nil ?_
    go_upto_region 10 with fail
    refine v_loop 8 32 (fun j T wr => Rp T 46 [(8, gw true (.int .i64 ((j : Nat) : Int))), (7, gw true (.pointer (some ⟨k, 0, none⟩))), (3, gw true (.slice (some ⟨g, 0, none⟩) 8 8)), (2, gw true (.pointer (some ⟨w.heap.size, 0, none⟩)))] ∧ Hid (BB wr k 24 ((oS s j).map bV) ∧ BB wr w.heap.size 24 ((List.replicate 32 (0 : Int)).map bV) ∧ Below k w6 wr)) (fun j T w h => h.1.a 8 rfl) ⟨q108, Bw6, Bh6, Below.refl _ _⟩ ?_
    clear q108 Bw6 Bh6 hit hj
    intro j T wr2 hj hh
    obtain ⟨q100, HJ⟩ := hh
    obtain ⟨B3, B2, br2⟩ := HJ.out
    clear HJ
    have zr6 := br2.size
    have hr2 : Below w.heap.size w wr2 := d6.trans (br2.mono (by omega))
    by_cases hit : j < 32
    · have hl := oS_len s j
      have cj := B3.v9 (j := j) (by omega)
      have hl8 : s.l.length = 8 := rfl
      have hbb : Below wr.heap.size wr wr2 := by rw [hk] at br2; exact bw6.trans br2
      obtain ⟨qs, os, hqs, hqsl, hcs⟩ := (hs.later hbb).u9 (j := j / 4) (by omega)
      cases hqs
      go_upto_region 10 with fail
      refine wp_region_lit ?_
      refine q100.t (.int .i64 ((j : Nat) : Int)) (ex_move rfl (q100.e (j := 8) rfl)) fun _ q101 => ?_;clear q100
      refine q101.t (.bool true) (ex_bin rfl (q101.e (j := 27) rfl) rfl (ltT _ _ hit _)) fun _ q102 => ?_;clear q101
      refine wpList_nil ?_
      go_upto_region 12 with fail
      refine wp_cond_true (q102.e (j := 28) rfl) ?_
      go_upto_region 12 with fail
      refine wp_region_lit ?_
      refine q102.t (.int .i64 ((j : Nat) : Int)) (ex_move rfl (q102.e (j := 8) rfl)) fun _ q103 => ?_;clear q102
      refine q103.t (.slice (some ⟨g, 0, none⟩) 8 8) (ex_move rfl (q103.e (j := 3) rfl)) fun _ q104 => ?_;clear q103
      refine q104.t (.int .i64 ((j : Nat) : Int)) (ex_move rfl (q104.e (j := 8) rfl)) fun _ q105 => ?_;clear q104
      refine q105.t (.int .i64 ((j / 4 : Nat) : Int)) (ex_bin rfl (q105.e (j := 33) rfl) rfl (quoC _ _ j 4 (by decide) (by omega) _)) fun _ q106 => ?_;clear q105
      refine q106.t (.pointer (some ⟨g, (j / 4), none⟩)) (ex_ix rfl (q106.e (j := 32) rfl) (q106.e (j := 34) rfl) (ixU0 g 8 8 (j / 4) (by omega) _)) fun _ q107 => ?_;clear q106
      rw [Nat.zero_add] at hcs
      refine q107.t (.int .u32 (s.l.getD (j / 4) 0)) (ex_ld rfl (q107.e (j := 35) rfl) (ldU hcs)) fun _ q108 => ?_;clear q107
      refine q108.t (.int .i64 ((j : Nat) : Int)) (ex_move rfl (q108.e (j := 8) rfl)) fun _ q109 => ?_;clear q108
      refine q109.t (.int .i64 ((j % 4 : Nat) : Int)) (ex_bin rfl (q109.e (j := 37) rfl) rfl (remC _ _ j 4 (by decide) (by omega) _)) fun _ q110 => ?_;clear q109
      refine q110.t (.int .i64 ((8 * (j % 4) : Nat) : Int)) (ex_bin rfl rfl (q110.e (j := 38) rfl) (mulC9 _ _ 8 (j % 4) (by omega) _)) fun _ q111 => ?_;clear q110
      refine q111.t (.int .i64 ((24 - 8 * (j % 4) : Nat) : Int)) (ex_bin rfl rfl (q111.e (j := 39) rfl) (subC9 _ _ 24 (8 * (j % 4)) (by omega) (by omega) _)) fun _ q112 => ?_;clear q111
      refine q112.t (.int .u64 ((24 - 8 * (j % 4) : Nat) : Int)) (ex_cv19 rfl (q112.e (j := 40) rfl) (cvI_U _ (by omega) _)) fun _ q113 => ?_;clear q112
      refine q113.t (.int .u32 (s.l.getD (j / 4) 0 / 2 ^ (24 - 8 * (j % 4)))) (ex_bin rfl (q113.e (j := 36) rfl) (q113.e (j := 41) rfl) (shrUu64 _ _ _ (24 - 8 * (j % 4)) (by omega) _)) fun _ q114 => ?_;clear q113
      refine q114.t (.int .u8 (IntKind.u8.wrap (s.l.getD (j / 4) 0 / 2 ^ (24 - 8 * (j % 4))))) (ex_cv19 rfl (q114.e (j := 42) rfl) (cv32_8 _ _)) fun _ q115 => ?_;clear q114
      refine q115.t (.pointer (some ⟨k, j, none⟩)) (ex_ix rfl (q115.e (j := 7) rfl) (q115.e (j := 31) rfl) (ixA0 k j 32 24 5 Try.underlying24 i1b hit _)) fun _ q116 => ?_;clear q115
      obtain ⟨d9, hd9⟩ : ∃ z, z = wr2.setCell ⟨k, j, none⟩ (.int .u8 (IntKind.u8.wrap (s.l.getD (j / 4) 0 / 2 ^ (24 - 8 * (j % 4))))) := ⟨_, rfl⟩
      refine vs d9 (want_none rfl) (ex_st rfl (q116.e (j := 44) rfl) (q116.e (j := 43) rfl) (by rw [hd9]; exact st8 cj (B3.free _))) rfl ?_
      have B3e : BB d9 k 24 ((oS s (j + 1)).map bV) := by rw [hd9]; exact B3.setv _ _
      have ue : Upd (fun i => i = k) wr2 d9 := by rw [hd9]; exact upd1 _ _ _ _
      have B2e := B2.upd ue (by omega)
      have be : Below k w6 d9 := br2.trans (bel_ge ue (by omega) (by omega))
      clear hd9
      have q117 := (((((Rp.nil q116.z).cons (q116.a 2 rfl)).cons (q116.a 3 rfl)).cons (q116.a 7 rfl)).cons (q116.a 8 rfl))
      clear q116
      refine wpList_nil ?_
      go_upto_region 11 with fail
      refine wp_region_lit ?_
      refine q117.t (.int .i64 ((j : Nat) : Int)) (ex_move rfl (q117.e (j := 8) rfl)) fun _ q118 => ?_;clear q117
      refine q118.t (.int .i64 ((j + 1 : Nat) : Int)) (ex_bin rfl (q118.e (j := 29) rfl) rfl (add1C _ _ j (by omega) _)) fun _ q119 => ?_;clear q118
      refine q119.t (.int .i64 ((j + 1 : Nat) : Int)) (ex_assign rfl (q119.e (j := 30) rfl)) fun _ q120 => ?_;clear q119
      have q121 := (((((Rp.nil q120.z).cons (q120.a 2 rfl)).cons (q120.a 3 rfl)).cons (q120.a 7 rfl)).cons (q120.a 8 rfl))
      clear q120
      refine wpList_nil ?_
      exact ⟨_, rfl, hit, q121, B3e, B2e, be⟩
    · obtain rfl : j = 32 := by omega
      rw [oS_32] at B3
      have hm : ((outB s).map bV).length = 32 := by rw [len_bV]; rfl
      go_upto_region 10 with fail
      refine wp_region_lit ?_
      refine q100.t (.int .i64 ((32 : Nat) : Int)) (ex_move rfl (q100.e (j := 8) rfl)) fun _ q101 => ?_;clear q100
      refine q101.t (.bool false) (ex_bin rfl (q101.e (j := 27) rfl) rfl (ltF _ _ hit _)) fun _ q102 => ?_;clear q101
      refine wpList_nil ?_
      go_upto_region 13 with fail
      refine wp_cond_false (q102.e (j := 28) rfl) ?_
      go_upto_region 13 with fail
      refine wp_region_lit ?_
      refine q102.t (.agg ((outB s).map bV).toArray) (ex_ld rfl (q102.e (j := 7) rfl) (B3.ld 24 Try.underlying24 rfl (by rw [hm]; exact i32h))) fun _ q103 => ?_;clear q102
      obtain ⟨w9, hw9⟩ : ∃ y, y = wr2.setCells w.heap.size 0 ((outB s).map bV) := ⟨_, rfl⟩
      refine vs w9 (want_none rfl) (ex_st rfl (q103.e (j := 2) rfl) (q103.e (j := 45) rfl) (by rw [hw9]; exact B2.st 24 _ (by rw [hm]; rfl) (by rw [List.size_toArray, hm]; exact i32h) (one_b _))) rfl ?_
      have B9 : BB w9 w.heap.size 24 ((outB s).map bV) := by rw [hw9]; exact B2.whole _ (by rw [hm]; rfl)
      have b9 : Below w.heap.size w w9 := by rw [hw9]; exact hr2.trans (bel_ge (upd18 _ _ _ _) hr2.size (Nat.le_refl _))
      clear hw9
      refine wpList_nil ?_
      go_wp2
      exact B9.res rfl (q103.a 2 rfl) Try.underlying24 rfl (by rw [hm]; exact i32h) ⟨by rw [hsv, hF]; rfl, b9⟩

end Go.Proofs.Ytomiifnhcojilaa
