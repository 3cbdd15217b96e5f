import Derived.Test.YtomiifnhcojilaaS19
namespace Go.Proofs.Ytomiifnhcojilaa
open Go.RowKit Go.Maps
open Classical
set_option linter.unusedVariables false
set_option linter.unusedSimpArgs false

theorem prStep_len (p : Nat) (l : List Nat) : l.length ≤ (prStep p l).length := by
  unfold prStep
  split
  · rw [List.length_append]; omega
  · exact Nat.le_refl _
theorem prS_mono : ∀ {i j : Nat}, i ≤ j → (prS i).length ≤ (prS j).length := fun {i j} h => by
  induction h with
  | refl => exact Nat.le_refl _
  | step _ ih => exact Nat.le_trans ih (prStep_len _ _)
theorem prS_len : ∀ k, (prS k).length ≤ k
  | 0 => Nat.le_refl _
  | k + 1 => by
    have := prS_len k
    show (prStep (k + 2) (prS k)).length ≤ k + 1
    unfold prStep
    split
    · rw [List.length_append]; simp; omega
    · omega
theorem prS_pos : ∀ k, ∀ x ∈ prS k, 0 < x
  | 0, x, h => by cases h
  | k + 1, x, h => by
    change x ∈ prStep (k + 2) (prS k) at h
    unfold prStep at h
    split at h
    · rcases List.mem_append.1 h with h | h
      · exact prS_pos k x h
      · rw [List.mem_singleton.1 h]; omega
    · exact prS_pos k x h
theorem prS_lt {k : Nat} (h : k ≤ 310) : (prS k).length < 64 ↔ k < 310 := by
  constructor
  · intro hl
    rcases Nat.lt_or_ge k 310 with h2 | h2
    · exact h2
    · obtain rfl : k = 310 := by omega
      rw [prS_310] at hl
      exact absurd hl (by decide)
  · intro hk
    have := prS_mono (show k ≤ 309 by omega)
    rw [prS_309] at this
    omega
def okP (l : List Nat) (p i : Nat) : Bool := (l.take i).all (fun x => !decide (p % x = 0))
theorem okP_at {l : List Nat} {p i x : Nat} (h : l[i]? = some x) : okP l p (i + 1) = (okP l p i && !decide (p % x = 0)) := by
  obtain ⟨hj, rfl⟩ := List.getElem?_eq_some_iff.1 h
  unfold okP
  rw [List.take_succ_eq_append_getElem hj, List.all_append]
  simp
def yU9 : Lay Int := ⟨103, 104, 1, 4, fun x => [.int .u32 x], 0⟩
theorem kU9 : yU9.Ok := ⟨by decide, fun x => rfl, fun x u h => by
    simp [yU9] at h
    rw [h]; rfl, Try.underlying104, ⟨.int .u32 0, by kernel_rfl, rfl⟩⟩
theorem bs1Q (x : Nat) (w : World) : (Instr.buildSlice 138 1 #[(0, .int .u64 (x : Int))]).run Try.prog w = .ok (.slice (some ⟨w.heap.size, 0, none⟩) 1 1) (w.alloc (.cells #[.int .u64 (x : Int)] 122)) := by go_simp
theorem bs1U (x : Int) (w : World) : (Instr.buildSlice 104 1 #[(0, .int .u32 x)]).run Try.prog w = .ok (.slice (some ⟨w.heap.size, 0, none⟩) 1 1) (w.alloc (.cells #[.int .u32 x] 103)) := by go_simp
theorem v_loopU {c : Code} {Q : Exit → Act → World → Prop} {T0 : Array Value} {w0 : World} (x N o : Nat) (I : Nat → Array Value → World → Prop) (hx : ∀ j T w, I j T w → T[x]? = some (gw true (.int .u64 ((j + o : Nat) : Int)))) (h0 : I 0 T0 w0)
    (round : ∀ j T w, j ≤ N → I j T w → c.wp Try.prog (Exit.then (fun a' w' => ∃ T', a' = ⟨T', []⟩ ∧ j + 1 ≤ N ∧ I (j + 1) T' w') Q) ⟨T, []⟩ w) : (Code.loop c).wp Try.prog Q ⟨T0, []⟩ w0 := by
  have sl : ∀ {j : Nat} {T : Array Value} {w : World}, I j T w → (intOf (T.getD x undef)).toNat = j + o := fun h => by
    rw [getD_of (hx _ _ _ h)]
    show (intOf (.int .u64 _)).toNat = _
    simp [intOf]
    omega
  refine wp_loop (fun a w => ∃ j T, a = ⟨T, []⟩ ∧ j ≤ N ∧ I j T w) (fun a w => N + o - (intOf (a.tmps.getD x undef)).toNat) ⟨0, T0, rfl, Nat.zero_le _, h0⟩ ?_
  rintro a w ⟨j, T, rfl, hj, hI⟩
  refine Code.wp_mono (fun e a' w' h => ?_) (round j T w hj hI)
  cases e with
  | normal =>
    obtain ⟨T', rfl, hj', hI'⟩ := h
    refine ⟨⟨j + 1, T', rfl, hj', hI'⟩, ?_⟩
    show N + o - (intOf (T'.getD x undef)).toNat < N + o - (intOf (T.getD x undef)).toNat
    rw [sl hI', sl hI]
    omega
  | _ => exact h
set_option maxRecDepth 100000 in
set_option maxHeartbeats 2000000 in
theorem primes19 (w : World) :
    Calls Try.prog 90 #[.int .i64 ((64 : Nat) : Int)] w fun e w' => ∃ v, e = .returned v ∧ OwnY yQ9 w.heap.size w' v prL ∧ Below w.heap.size w w' := by
  go_enter Try.func90, Try.ntmps90
  go_upto_region 0 with fail
  refine wp_region_lit ?_
  refine vl_gen (fun T => Rp T 32 [(0, gw true (.int .i64 ((64 : Nat) : Int)))]) ((Rp.nil rfl).cons rfl) (fun Z0 q0 => ?_)
  refine q0.t (.slice none 0 0) (ex_assign rfl rfl) fun _ q1 => ?_;clear q0
  refine wpList_nil ?_
  go_upto_region 1 with fail
  refine wp_region_lit ?_
  refine q1.t (.slice none 0 0) (ex_assign rfl rfl) fun _ q2 => ?_;clear q1
  refine wpList_nil ?_
  go_upto_region 2 with fail
  refine wp_region_lit ?_
  refine q2.t (.int .u64 ((0 + 2 : Nat) : Int)) (ex_assign rfl rfl) fun _ q3 => ?_;clear q2
  have q4 := ((((Rp.nil q3.z).cons (q3.a 0 rfl)).cons (q3.a 3 rfl)).cons (q3.a 4 rfl))
  clear q3
  refine wpList_nil ?_
  go_upto_region 3 with fail
  refine v_loopU 4 310 2 (fun k T wr => ∃ v, Rp T 32 [(4, gw true (.int .u64 ((k + 2 : Nat) : Int))), (3, gw true v), (0, gw true (.int .i64 ((64 : Nat) : Int)))] ∧ Hid (OwnY yQ9 w.heap.size wr v (prS k) ∧ Below w.heap.size w wr)) (fun j T w h => by obtain ⟨v, h, _⟩ := h; exact h.a 4 rfl) ⟨_, q4, OwnY.nil _ _ _, Below.refl _ _⟩ ?_
  clear q4
  intro k T wr hk hh
  obtain ⟨v, q100, HJ⟩ := hh
  obtain ⟨hO, br⟩ := HJ.out
  clear HJ
  have zr := br.size
  have hlen := prS_len k
  obtain ⟨a9, c9, hv9, s9, _⟩ := hO.sl kQ9
  have hlt := prS_lt hk
  by_cases hit : (prS k).length < 64
  · have hk2 := hlt.1 hit
    go_upto_region 3 with fail
    refine wp_region_lit ?_
    refine q100.t (.slice a9 (prS k).length c9) (ex_move rfl ((q100.e (j := 3) rfl).trans hv9)) fun _ q101 => ?_;clear q100
    refine q101.t (.int .i64 (((prS k).length : Nat) : Int)) (ex_lenG rfl rfl Try.underlying138 (q101.e (j := 7) rfl)) fun _ q102 => ?_;clear q101
    refine q102.t (.int .i64 ((64 : Nat) : Int)) (ex_move rfl (q102.e (j := 0) rfl)) fun _ q103 => ?_;clear q102
    refine q103.t (.bool true) (ex_bin rfl (q103.e (j := 8) rfl) (q103.e (j := 9) rfl) (ltT _ _ hit _)) fun _ q104 => ?_;clear q103
    refine wpList_nil ?_
    go_upto_region 5 with fail
    refine wp_cond_true (q104.e (j := 10) rfl) ?_
    go_upto_region 5 with fail
    refine wp_region_lit ?_
    refine q104.t (.bool (okP (prS k) (k + 2) 0)) (ex_assign rfl rfl) fun _ q105 => ?_;clear q104
    refine wpList_nil ?_
    go_upto_region 6 with fail
    refine wp_region_lit ?_
    refine q105.t (.int .i64 ((0 : Nat) : Int)) (ex_assign rfl rfl) fun _ q106 => ?_;clear q105
    have q107 := ((((((Rp.nil q106.z).cons (q106.a 0 rfl)).cons (q106.a 3 rfl)).cons (q106.a 4 rfl)).cons (q106.a 5 rfl)).cons (q106.a 6 rfl))
    clear q106
    refine wpList_nil ?_
    go_upto_region 7 with fail
    refine v_loop 6 (prS k).length (fun i T w9 => Rp T 32 [(6, gw true (.int .i64 ((i : Nat) : Int))), (5, gw true (.bool (okP (prS k) (k + 2) i))), (4, gw true (.int .u64 ((k + 2 : Nat) : Int))), (3, gw true v), (0, gw true (.int .i64 ((64 : Nat) : Int)))] ∧ w9 = wr) (fun j T w h => h.1.a 6 rfl) ⟨q107, rfl⟩ ?_
    clear q107
    intro i T w9 hi hh
    obtain ⟨q200, rfl⟩ := hh
    by_cases hit2 : i < (prS k).length
    · obtain ⟨qa, oa, hqa, hqal, hca⟩ := s9.q9 (j := i) hit2
      obtain ⟨x, hx⟩ : ∃ x, (prS k)[i]? = some x := ⟨_, List.getElem?_eq_getElem hit2⟩
      have hxd : (prS k).getD i 0 = x := by rw [List.getD_eq_getElem?_getD, hx]; rfl
      rw [hxd] at hca
      have hx0 := prS_pos k x (List.mem_of_getElem? hx)
      have hua := okP_at (p := k + 2) hx
      go_upto_region 7 with fail
      refine wp_region_lit ?_
      refine q200.t (.int .i64 ((i : Nat) : Int)) (ex_move rfl (q200.e (j := 6) rfl)) fun _ q201 => ?_;clear q200
      refine q201.t (.slice a9 (prS k).length c9) (ex_move rfl ((q201.e (j := 3) rfl).trans hv9)) fun _ q202 => ?_;clear q201
      refine q202.t (.int .i64 (((prS k).length : Nat) : Int)) (ex_lenG rfl rfl Try.underlying138 (q202.e (j := 14) rfl)) fun _ q203 => ?_;clear q202
      refine q203.t (.bool true) (ex_bin rfl (q203.e (j := 13) rfl) (q203.e (j := 15) rfl) (ltT _ _ hit2 _)) fun _ q204 => ?_;clear q203
      refine wpList_nil ?_
      go_upto_region 9 with fail
      refine wp_cond_true (q204.e (j := 16) rfl) ?_
      go_upto_region 9 with fail
      refine wp_region_lit ?_
      refine q204.t (.int .u64 ((k + 2 : Nat) : Int)) (ex_move rfl (q204.e (j := 4) rfl)) fun _ q205 => ?_;clear q204
      refine q205.t (.slice a9 (prS k).length c9) (ex_move rfl ((q205.e (j := 3) rfl).trans hv9)) fun _ q206 => ?_;clear q205
      refine q206.t (.int .i64 ((i : Nat) : Int)) (ex_move rfl (q206.e (j := 6) rfl)) fun _ q207 => ?_;clear q206
      refine q207.t (.pointer (some ⟨qa, (oa + i), none⟩)) (ex_ix rfl (q207.e (j := 20) rfl) (q207.e (j := 21) rfl) (by rw [hqa]; exact ixQ qa oa (prS k).length c9 i hit2 _)) fun _ q208 => ?_;clear q207
      refine q208.t (.int .u64 ((x : Nat) : Int)) (ex_ld rfl (q208.e (j := 22) rfl) (ldQ hca)) fun _ q209 => ?_;clear q208
      refine q209.t (.int .u64 (((k + 2) % x : Nat) : Int)) (ex_bin rfl (q209.e (j := 19) rfl) (q209.e (j := 23) rfl) (remQ _ _ (k + 2) x hx0 _)) fun _ q210 => ?_;clear q209
      refine q210.t (.bool (decide ((k + 2) % x = 0))) (ex_bin rfl (q210.e (j := 24) rfl) rfl (eqlQ _ _ ((k + 2) % x) 0 _)) fun _ q211 => ?_;clear q210
      have q212 := (((((((Rp.nil q211.z).cons (q211.a 0 rfl)).cons (q211.a 3 rfl)).cons (q211.a 4 rfl)).cons (q211.a 5 rfl)).cons (q211.a 6 rfl)).cons (q211.a 25 rfl))
      clear q211
      refine wpList_nil ?_
      cases hc : decide ((k + 2) % x = 0) with
      | true =>
        have q212x := q212.a 25 rfl
        rw [hc] at q212x
        rw [hc, Bool.not_true, Bool.and_false] at hua
        go_upto_region 10 with fail
        refine wp_cond_true (ev q212x rfl) ?_
        clear q212x
        go_upto_region 10 with fail
        refine wp_region_lit ?_
        refine q212.t (.bool (okP (prS k) (k + 2) (i + 1))) (ex_assign rfl (by rw [hua]; rfl)) fun _ q213 => ?_;clear q212
        have q214 := ((((((Rp.nil q213.z).cons (q213.a 0 rfl)).cons (q213.a 3 rfl)).cons (q213.a 4 rfl)).cons (q213.a 5 rfl)).cons (q213.a 6 rfl))
        clear q213
        refine wpList_nil ?_
        go_upto_region 8 with fail
        refine wp_region_lit ?_
        refine q214.t (.int .i64 ((i : Nat) : Int)) (ex_move rfl (q214.e (j := 6) rfl)) fun _ q215 => ?_;clear q214
        refine q215.t (.int .i64 ((i + 1 : Nat) : Int)) (ex_bin rfl (q215.e (j := 17) rfl) rfl (add1C _ _ i (by omega) _)) fun _ q216 => ?_;clear q215
        refine q216.t (.int .i64 ((i + 1 : Nat) : Int)) (ex_assign rfl (q216.e (j := 18) rfl)) fun _ q217 => ?_;clear q216
        have q218 := ((((((Rp.nil q217.z).cons (q217.a 0 rfl)).cons (q217.a 3 rfl)).cons (q217.a 4 rfl)).cons (q217.a 5 rfl)).cons (q217.a 6 rfl))
        clear q217
        refine wpList_nil ?_
        exact ⟨_, rfl, hit2, q218, rfl⟩
      | false =>
        have q212x := q212.a 25 rfl
        rw [hc] at q212x
        rw [hc, Bool.not_false, Bool.and_true] at hua
        rw [← hua] at q212
        go_upto_region 8 with fail
        refine wp_cond_false (ev q212x rfl) ?_
        clear q212x
        go_upto_region 8 with fail
        refine wp_region_lit ?_
        refine q212.t (.int .i64 ((i : Nat) : Int)) (ex_move rfl (q212.e (j := 6) rfl)) fun _ q213 => ?_;clear q212
        refine q213.t (.int .i64 ((i + 1 : Nat) : Int)) (ex_bin rfl (q213.e (j := 17) rfl) rfl (add1C _ _ i (by omega) _)) fun _ q214 => ?_;clear q213
        refine q214.t (.int .i64 ((i + 1 : Nat) : Int)) (ex_assign rfl (q214.e (j := 18) rfl)) fun _ q215 => ?_;clear q214
        have q216 := ((((((Rp.nil q215.z).cons (q215.a 0 rfl)).cons (q215.a 3 rfl)).cons (q215.a 4 rfl)).cons (q215.a 5 rfl)).cons (q215.a 6 rfl))
        clear q215
        refine wpList_nil ?_
        exact ⟨_, rfl, hit2, q216, rfl⟩
    · obtain rfl : i = (prS k).length := by omega
      go_upto_region 7 with fail
      refine wp_region_lit ?_
      refine q200.t (.int .i64 (((prS k).length : Nat) : Int)) (ex_move rfl (q200.e (j := 6) rfl)) fun _ q201 => ?_;clear q200
      refine q201.t (.slice a9 (prS k).length c9) (ex_move rfl ((q201.e (j := 3) rfl).trans hv9)) fun _ q202 => ?_;clear q201
      refine q202.t (.int .i64 (((prS k).length : Nat) : Int)) (ex_lenG rfl rfl Try.underlying138 (q202.e (j := 14) rfl)) fun _ q203 => ?_;clear q202
      refine q203.t (.bool false) (ex_bin rfl (q203.e (j := 13) rfl) (q203.e (j := 15) rfl) (ltF _ _ hit2 _)) fun _ q204 => ?_;clear q203
      refine wpList_nil ?_
      go_upto_region 11 with fail
      refine wp_cond_false (q204.e (j := 16) rfl) ?_
      have q205 := (((((Rp.nil q204.z).cons (q204.a 0 rfl)).cons (q204.a 3 rfl)).cons (q204.a 4 rfl)).cons (q204.a 5 rfl))
      clear q204
      have hfull : okP (prS k) (k + 2) (prS k).length = (prS k).all (fun x => !decide ((k + 2) % x = 0)) := by unfold okP; rw [List.take_length]
      rw [hfull] at q205
      go_upto_region 11 with fail
      refine wp_region_lit ?_
      refine q205.t (.bool ((prS k).all (fun x => !decide ((k + 2) % x = 0)))) (ex_move rfl (q205.e (j := 5) rfl)) fun _ q206 => ?_;clear q205
      have q207 := (((((Rp.nil q206.z).cons (q206.a 0 rfl)).cons (q206.a 3 rfl)).cons (q206.a 4 rfl)).cons (q206.a 26 rfl))
      clear q206
      refine wpList_nil ?_
      cases hal : (prS k).all (fun x => !decide ((k + 2) % x = 0)) with
      | true =>
        have q207x := q207.a 26 rfl
        rw [hal] at q207x
        have hS : prS (k + 1) = prS k ++ [k + 2] := by show prStep (k + 2) (prS k) = _; unfold prStep; rw [if_pos hal]
        go_upto_region 12 with fail
        refine wp_cond_true (ev q207x rfl) ?_
        clear q207x
        go_upto_region 12 with fail
        refine wp_region_lit ?_
        refine q207.t (v) (ex_move rfl (q207.e (j := 3) rfl)) fun _ q208 => ?_;clear q207
        refine q208.t (.int .u64 ((k + 2 : Nat) : Int)) (ex_move rfl (q208.e (j := 4) rfl)) fun _ q209 => ?_;clear q208
        obtain ⟨r5, hr5⟩ : ∃ z, z = w9.alloc (.cells #[.int .u64 ((k + 2 : Nat) : Int)] 122) := ⟨_, rfl⟩
        refine vw (.slice (some ⟨w9.heap.size, 0, none⟩) 1 1) r5 (want_none rfl) (ex_bs18 rfl (q209.e (j := 28) rfl) (by rw [hr5]; exact bs1Q _ _)) rfl q209.z (by decide) (q209.k fun _ q210 => ?_);clear q209
        have s5 : SlY yQ9 r5 (some ⟨w9.heap.size, 0, none⟩) 1 1 [k + 2] := by rw [hr5]; exact sl_box (Y := yQ9) w9 (k + 2) 122
        have b5 : Below w9.heap.size w9 r5 := by rw [hr5]; exact (Below.refl _ _).alloc (Nat.le_refl _) _
        clear hr5
        have y5 := b5.size
        obtain ⟨v6, r6, ha6, o6, g6, _⟩ := run_appY kQ9 r5 138 w.heap.size _ v _ 1 1 [k + 2] s5 (hO.grow b5) (by omega) (by unfold maxLen; omega) (by show ((prS k).length + 1) * 8 ≤ _; omega)
        have b6 : Below w.heap.size w r6 := (br.trans (b5.mono (by omega))).grown g6 (by omega) (fun k hk => (hO.blk k hk).1)
        rw [← hS] at o6
        refine vw (v6) r6 (want_none rfl) (ex_app18 rfl (q210.e (j := 27) rfl) (q210.e (j := 29) rfl) ha6) rfl q210.z (by decide) (q210.k fun _ q211 => ?_);clear q210
        refine q211.t (v6) (ex_assign rfl (q211.e (j := 30) rfl)) fun _ q212 => ?_;clear q211
        have q213 := ((((Rp.nil q212.z).cons (q212.a 0 rfl)).cons (q212.a 3 rfl)).cons (q212.a 4 rfl))
        clear q212
        refine wpList_nil ?_
        go_upto_region 4 with fail
        refine wp_region_lit ?_
        refine q213.t (.int .u64 ((k + 2 : Nat) : Int)) (ex_move rfl (q213.e (j := 4) rfl)) fun _ q214 => ?_;clear q213
        refine q214.t (.int .u64 ((k + 1 + 2 : Nat) : Int)) (ex_bin (Y := .int .u64 ((1 : Nat) : Int)) rfl (q214.e (j := 11) rfl) rfl (by rw [addQ9]; rw [show (k + 2 + 1) % 18446744073709551616 = k + 1 + 2 by omega])) fun _ q215 => ?_;clear q214
        refine q215.t (.int .u64 ((k + 1 + 2 : Nat) : Int)) (ex_assign rfl (q215.e (j := 12) rfl)) fun _ q216 => ?_;clear q215
        have q217 := ((((Rp.nil q216.z).cons (q216.a 0 rfl)).cons (q216.a 3 rfl)).cons (q216.a 4 rfl))
        clear q216
        refine wpList_nil ?_
        exact ⟨_, rfl, hk2, v6, q217, o6, b6⟩
      | false =>
        have q207x := q207.a 26 rfl
        rw [hal] at q207x
        have hS : prS (k + 1) = prS k := by show prStep (k + 2) (prS k) = _; unfold prStep; rw [if_neg (by rw [hal]; simp)]
        rw [← hS] at hO
        go_upto_region 4 with fail
        refine wp_cond_false (ev q207x rfl) ?_
        clear q207x
        go_upto_region 4 with fail
        refine wp_region_lit ?_
        refine q207.t (.int .u64 ((k + 2 : Nat) : Int)) (ex_move rfl (q207.e (j := 4) rfl)) fun _ q208 => ?_;clear q207
        refine q208.t (.int .u64 ((k + 1 + 2 : Nat) : Int)) (ex_bin (Y := .int .u64 ((1 : Nat) : Int)) rfl (q208.e (j := 11) rfl) rfl (by rw [addQ9]; rw [show (k + 2 + 1) % 18446744073709551616 = k + 1 + 2 by omega])) fun _ q209 => ?_;clear q208
        refine q209.t (.int .u64 ((k + 1 + 2 : Nat) : Int)) (ex_assign rfl (q209.e (j := 12) rfl)) fun _ q210 => ?_;clear q209
        have q211 := ((((Rp.nil q210.z).cons (q210.a 0 rfl)).cons (q210.a 3 rfl)).cons (q210.a 4 rfl))
        clear q210
        refine wpList_nil ?_
        exact ⟨_, rfl, hk2, v, q211, hO, br⟩
  · obtain rfl : k = 310 := by have := fun h => hit (hlt.2 h); omega
    rw [prS_310] at hO
    go_upto_region 3 with fail
    refine wp_region_lit ?_
    refine q100.t (.slice a9 (prS 310).length c9) (ex_move rfl ((q100.e (j := 3) rfl).trans hv9)) fun _ q101 => ?_;clear q100
    refine q101.t (.int .i64 (((prS 310).length : Nat) : Int)) (ex_lenG rfl rfl Try.underlying138 (q101.e (j := 7) rfl)) fun _ q102 => ?_;clear q101
    refine q102.t (.int .i64 ((64 : Nat) : Int)) (ex_move rfl (q102.e (j := 0) rfl)) fun _ q103 => ?_;clear q102
    refine q103.t (.bool false) (ex_bin rfl (q103.e (j := 8) rfl) (q103.e (j := 9) rfl) (ltF _ _ hit _)) fun _ q104 => ?_;clear q103
    refine wpList_nil ?_
    go_upto_region 13 with fail
    refine wp_cond_false (q104.e (j := 10) rfl) ?_
    go_upto_region 13 with fail
    refine wp_region_lit ?_
    refine q104.t (v) (ex_move rfl (q104.e (j := 3) rfl)) fun _ q105 => ?_;clear q104
    refine q105.t (v) (ex_assign rfl (q105.e (j := 31) rfl)) fun _ q106 => ?_;clear q105
    refine wpList_nil ?_
    go_wp2
    refine bodyPost_ret (results_tmp rfl _ _ _) rfl ⟨v, ?_, hO, br⟩
    rw [getD_of (q106.a 2 rfl)]
    rfl
set_option maxRecDepth 100000 in
set_option maxHeartbeats 2000000 in
theorem table19 (w : World) :
    Calls Try.prog 71 #[] w fun e w' => ∃ v, e = .returned v ∧ OwnY yU9 w.heap.size w' v kT9 ∧ Below w.heap.size w w' := by
  go_enter Try.func71, Try.ntmps71
  go_upto_region 0 with fail
  refine wp_region_lit ?_
  refine vl_gen (fun T => Rp T 18 []) (Rp.nil rfl) (fun Z0 q0 => ?_)
  refine q0.t (.slice none 0 0) (ex_assign rfl rfl) fun _ q1 => ?_;clear q0
  refine wpList_nil ?_
  go_upto_region 1 with fail
  refine wp_region_lit ?_
  refine vcallP (want_none rfl) (ex_call (args := #[.int .i64 ((64 : Nat) : Int)]) rfl (by simp only [List.map_toArray, List.map_cons, List.map_nil, evc] <;> rfl) rfl) (primes19 w) rfl q1.z (by decide) ?_
  rintro e w1 ⟨v1, rfl, O1, b1⟩
  refine ⟨_, rfl, q1.k fun _ q2 => ?_⟩;clear q1
  have z1 := b1.size
  obtain ⟨a9, c9, hv9, s9, _⟩ := O1.sl kQ9
  refine q2.t (v1) (ex_assign rfl (q2.e (j := 4) rfl)) fun _ q3 => ?_;clear q2
  refine wpList_nil ?_
  go_upto_region 2 with fail
  refine wp_region_lit ?_
  refine q3.t (.slice none 0 0) (ex_assign rfl rfl) fun _ q4 => ?_;clear q3
  refine wpList_nil ?_
  go_upto_region 3 with fail
  refine wp_region_lit ?_
  refine q4.t (.int .i64 ((0 : Nat) : Int)) (ex_assign rfl rfl) fun _ q5 => ?_;clear q4
  have q6 := ((((Rp.nil q5.z).cons (q5.a 1 rfl)).cons (q5.a 2 rfl)).cons (q5.a 3 rfl))
  clear q5
  refine wpList_nil ?_
  go_upto_region 4 with fail
  refine v_loop 3 64 (fun j T wr => ∃ v, Rp T 18 [(3, gw true (.int .i64 ((j : Nat) : Int))), (2, gw true v), (1, gw true v1)] ∧ Hid (OwnY yU9 w1.heap.size wr v ((prL.take j).map (fun p => ((rootF p : Nat) : Int))) ∧ Below w1.heap.size w1 wr)) (fun j T w h => by obtain ⟨v, h, _⟩ := h; exact h.a 3 rfl) ⟨_, q6, OwnY.nil _ _ _, Below.refl _ _⟩ ?_
  clear q6
  intro j T wr hj hh
  obtain ⟨v, q100, HJ⟩ := hh
  obtain ⟨hO, br⟩ := HJ.out
  clear HJ
  have zr := br.size
  by_cases hit : j < 64
  · have hpl : prL.length = 64 := rfl
    obtain ⟨x, hx⟩ : ∃ x, prL[j]? = some x := ⟨_, List.getElem?_eq_getElem (by omega)⟩
    obtain ⟨qa, oa, hqa, hqal, hca⟩ := (s9.on br (Nat.le_refl _)).q9 (j := j) (by omega)
    have hxd : prL.getD j 0 = x := by rw [List.getD_eq_getElem?_getD, hx]; rfl
    rw [hxd] at hca
    have hua : ((prL.take (j + 1)).map (fun p => ((rootF p : Nat) : Int))) = ((prL.take j).map (fun p => ((rootF p : Nat) : Int))) ++ [((rootF x : Nat) : Int)] := by
      obtain ⟨hj2, hx2⟩ := List.getElem?_eq_some_iff.1 hx
      rw [List.take_succ_eq_append_getElem hj2, List.map_append, hx2]
      rfl
    have hul : (((prL.take j).map (fun p => ((rootF p : Nat) : Int)))).length ≤ 64 := by rw [List.length_map, List.length_take]; omega
    go_upto_region 4 with fail
    refine wp_region_lit ?_
    refine q100.t (.int .i64 ((j : Nat) : Int)) (ex_move rfl (q100.e (j := 3) rfl)) fun _ q101 => ?_;clear q100
    refine q101.t (.bool true) (ex_bin rfl (q101.e (j := 5) rfl) rfl (ltT _ _ hit _)) fun _ q102 => ?_;clear q101
    refine wpList_nil ?_
    go_upto_region 6 with fail
    refine wp_cond_true (q102.e (j := 6) rfl) ?_
    go_upto_region 6 with fail
    refine wp_region_lit ?_
    refine q102.t (v) (ex_move rfl (q102.e (j := 2) rfl)) fun _ q103 => ?_;clear q102
    refine q103.t (.slice a9 prL.length c9) (ex_move rfl ((q103.e (j := 1) rfl).trans hv9)) fun _ q104 => ?_;clear q103
    refine q104.t (.int .i64 ((j : Nat) : Int)) (ex_move rfl (q104.e (j := 3) rfl)) fun _ q105 => ?_;clear q104
    refine q105.t (.pointer (some ⟨qa, (oa + j), none⟩)) (ex_ix rfl (q105.e (j := 10) rfl) (q105.e (j := 11) rfl) (by rw [hqa]; exact ixQ qa oa prL.length c9 j (by omega) _)) fun _ q106 => ?_;clear q105
    refine q106.t (.int .u64 ((x : Nat) : Int)) (ex_ld rfl (q106.e (j := 12) rfl) (ldQ hca)) fun _ q107 => ?_;clear q106
    refine vcallP (want_none rfl) (ex_call rfl (by simp only [List.map_toArray, List.map_cons, List.map_nil, (q107.e (j := 13) rfl), evc] <;> rfl) rfl) (root19 x wr) rfl q107.z (by decide) ?_
    rintro e r4 ⟨rfl, b4⟩
    refine ⟨_, rfl, q107.k fun _ q108 => ?_⟩;clear q107
    have f4 : Below w1.heap.size w1 r4 := br.trans (b4.mono zr)
    have O4 := hO.grow b4
    have y4 := f4.size
    obtain ⟨r5, hr5⟩ : ∃ z, z = r4.alloc (.cells #[.int .u32 ((rootF x : Nat) : Int)] 103) := ⟨_, rfl⟩
    refine vw (.slice (some ⟨r4.heap.size, 0, none⟩) 1 1) r5 (want_none rfl) (ex_bs18 rfl (q108.e (j := 14) rfl) (by rw [hr5]; exact bs1U _ _)) rfl q108.z (by decide) (q108.k fun _ q109 => ?_);clear q108
    have s5 : SlY yU9 r5 (some ⟨r4.heap.size, 0, none⟩) 1 1 [((rootF x : Nat) : Int)] := by rw [hr5]; exact sl_box (Y := yU9) r4 ((rootF x : Nat) : Int) 103
    have b5 : Below r4.heap.size r4 r5 := by rw [hr5]; exact (Below.refl _ _).alloc (Nat.le_refl _) _
    clear hr5
    have y5 := b5.size
    obtain ⟨v6, r6, ha6, o6, g6, _⟩ := run_appY kU9 r5 104 w1.heap.size _ v _ 1 1 [((rootF x : Nat) : Int)] s5 (O4.grow b5) (by omega) (by unfold maxLen; omega) (by show ((((prL.take j).map (fun p => ((rootF p : Nat) : Int)))).length + 1) * 4 ≤ _; omega)
    have b6 : Below w1.heap.size w1 r6 := (f4.trans (b5.mono (by omega))).grown g6 (by omega) (fun k hk => (hO.blk k hk).1)
    rw [← hua] at o6
    refine vw (v6) r6 (want_none rfl) (ex_app18 rfl (q109.e (j := 9) rfl) (q109.e (j := 15) rfl) ha6) rfl q109.z (by decide) (q109.k fun _ q110 => ?_);clear q109
    refine q110.t (v6) (ex_assign rfl (q110.e (j := 16) rfl)) fun _ q111 => ?_;clear q110
    have q112 := ((((Rp.nil q111.z).cons (q111.a 1 rfl)).cons (q111.a 2 rfl)).cons (q111.a 3 rfl))
    clear q111
    refine wpList_nil ?_
    go_upto_region 5 with fail
    refine wp_region_lit ?_
    refine q112.t (.int .i64 ((j : Nat) : Int)) (ex_move rfl (q112.e (j := 3) rfl)) fun _ q113 => ?_;clear q112
    refine q113.t (.int .i64 ((j + 1 : Nat) : Int)) (ex_bin rfl (q113.e (j := 7) rfl) rfl (add1C _ _ j (by omega) _)) fun _ q114 => ?_;clear q113
    refine q114.t (.int .i64 ((j + 1 : Nat) : Int)) (ex_assign rfl (q114.e (j := 8) rfl)) fun _ q115 => ?_;clear q114
    have q116 := ((((Rp.nil q115.z).cons (q115.a 1 rfl)).cons (q115.a 2 rfl)).cons (q115.a 3 rfl))
    clear q115
    refine wpList_nil ?_
    exact ⟨_, rfl, hit, v6, q116, o6, b6⟩
  · obtain rfl : j = 64 := by omega
    have hK : ((prL.take 64).map (fun p => ((rootF p : Nat) : Int))) = kT9 := by rw [List.take_of_length_le (show prL.length ≤ 64 from Nat.le_refl _)]; exact tab_k
    rw [hK] at hO
    go_upto_region 4 with fail
    refine wp_region_lit ?_
    refine q100.t (.int .i64 ((64 : Nat) : Int)) (ex_move rfl (q100.e (j := 3) rfl)) fun _ q101 => ?_;clear q100
    refine q101.t (.bool false) (ex_bin rfl (q101.e (j := 5) rfl) rfl (ltF _ _ hit _)) fun _ q102 => ?_;clear q101
    refine wpList_nil ?_
    go_upto_region 7 with fail
    refine wp_cond_false (q102.e (j := 6) rfl) ?_
    go_upto_region 7 with fail
    refine wp_region_lit ?_
    refine q102.t (v) (ex_move rfl (q102.e (j := 2) rfl)) fun _ q103 => ?_;clear q102
    refine q103.t (v) (ex_assign rfl (q103.e (j := 17) rfl)) fun _ q104 => ?_;clear q103
    refine wpList_nil ?_
    go_wp2
    refine bodyPost_ret (results_tmp rfl _ _ _) rfl ⟨v, ?_, hO.low z1, b1.trans (br.mono z1)⟩
    rw [getD_of (q104.a 0 rfl)]
    rfl

end Go.Proofs.Ytomiifnhcojilaa
