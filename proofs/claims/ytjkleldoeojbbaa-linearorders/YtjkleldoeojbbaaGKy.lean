import Derived.Test.YtjkleldoeojbbaaGKz
import Derived.Test.YtjkleldoeojbbaaK26
namespace Go.Proofs.Ytjkleldoeojbbaa
open Go.RowKit Go.Maps
open Classical
set_option linter.unusedVariables false
set_option linter.unusedSimpArgs false

theorem ldG0 {w : World} {q o : Nat} {a : Option Addr} {n c : Nat} (h : w.cell? ⟨q, o, none⟩ = some (.slice a n c)) : (Instr.loadAt 43 (.pointer (some ⟨q, o, none⟩))).run Try.prog w = .ok (.slice a n c) w := by go_simp
theorem ldG2 {w : World} {q o : Nat} {a : Option Addr} {n c : Nat} (h : w.cell? ⟨q, o, none⟩ = some (.slice a n c)) : (Instr.loadAt 44 (.pointer (some ⟨q, o, none⟩))).run Try.prog w = .ok (.slice a n c) w := by go_simp
theorem ldG4 {w : World} {q o : Nat} {a : Option Addr} {n c : Nat} (h : w.cell? ⟨q, o, none⟩ = some (.slice a n c)) : (Instr.loadAt 45 (.pointer (some ⟨q, o, none⟩))).run Try.prog w = .ok (.slice a n c) w := by go_simp
theorem ldG8 {w : World} {q o : Nat} {a : Option Addr} {n c : Nat} (h : w.cell? ⟨q, o, none⟩ = some (.slice a n c)) : (Instr.loadAt 47 (.pointer (some ⟨q, o, none⟩))).run Try.prog w = .ok (.slice a n c) w := by go_simp
theorem Lent.upd18 {S : Nat → Prop} {B : Nat} {w w' : World} {a : Option Addr} {n c : Nat} {L : List Kl} (h : Lent B w a n c L) (u : Upd S w w') (hS : ∀ k, S k → k < B) : Lent B w' a n c L := by
  obtain ⟨g, e, h1, h2, h3, h4⟩ := h.mrk
  have hn : ¬ S g := fun hs => by have := hS g hs; omega
  exact ⟨h.sl.upd u (fun x hx _ => by rw [e] at hx; cases hx; exact hn), g, e, h1, Nat.lt_of_lt_of_le h2 u.size, h3, (u.cell (p := ⟨g, n * 10, none⟩) h2 hn).trans h4⟩
set_option maxRecDepth 100000 in
set_option maxHeartbeats 2000000 in
theorem intact18 (q h1 h2 k1 k2 : Nat) (a1 : Option Addr) (c1 : Nat) (a2 : Option Addr) (c2 : Nat) (M : List Int) (w : World) (hG : GI w q h1 h2 k1 k2 a1 c1 a2 c2 M) (hbm : M.length ≤ 140737488355328) :
    Calls Try.prog 27 #[.pointer (some ⟨q, 0, none⟩)] w fun e w' => e = .returned (.bool true) ∧ Below w.heap.size w w' := by
  go_enter Try.func27, Try.ntmps27
  go_upto_region 0 with fail
  refine wp_region_lit ?_
  refine vl_gen (fun T => Rp T 133 [(0, gw true (.pointer (some ⟨q, 0, none⟩)))]) ((Rp.nil rfl).cons rfl) (fun Z0 q0 => ?_)
  refine q0.t (.bool false) (ex_assign rfl rfl) fun _ q1 => ?_;clear q0
  refine wpList_nil ?_
  go_upto_region 1 with fail
  refine wp_region_lit ?_
  refine q1.t (.int .i64 ((0 : Nat) : Int)) (ex_assign rfl rfl) fun _ q2 => ?_;clear q1
  have q3 := (((Rp.nil q2.z).cons (q2.a 0 rfl)).cons (q2.a 3 rfl))
  clear q2
  refine wpList_nil ?_
  go_upto_region 2 with fail
  refine v_loop 3 0 (fun j T wr => Rp T 133 [(3, gw true (.int .i64 (j : Int))), (0, gw true (.pointer (some ⟨q, 0, none⟩)))] ∧ Hid (Below w.heap.size w wr)) (fun j T w h => h.1.a 3 rfl) ⟨q3, (Below.refl w.heap.size w)⟩ ?_
  clear q3
  intro j1 T1 r1 hj1 hh1
  obtain ⟨q100, HJ1⟩ := hh1
  have b1 := HJ1.out
  clear HJ1
  have G1 := hG.later b1
  have B1 := G1.bb
  obtain rfl : j1 = 0 := by omega
  go_upto_region 2 with fail
  refine wp_region_lit ?_
  refine q100.t (.int .i64 ((0 : Nat) : Int)) (ex_move rfl (q100.e (j := 3) rfl)) fun _ q101 => ?_;clear q100
  refine q101.t (.pointer (some ⟨q, 0, none⟩)) (ex_move rfl (q101.e (j := 0) rfl)) fun _ q102 => ?_;clear q101
  refine q102.t (.pointer (some ⟨q, 0, none⟩)) (ex_nil rfl (q102.e (j := 9) rfl)) fun _ q103 => ?_;clear q102
  refine q103.t (.pointer (some ⟨q, 0, none⟩)) (ex_fa rfl (q103.e (j := 10) rfl) (faG q 0 (by decide) _)) fun _ q104 => ?_;clear q103
  refine q104.t (.slice none 0 0) (ex_ld rfl (q104.e (j := 11) rfl) (ldG0 ((B1.cell 0).trans rfl))) fun _ q105 => ?_;clear q104
  refine q105.t (.int .i64 ((0 : Nat) : Int)) (ex_lenG rfl rfl Try.underlying43 (q105.e (j := 12) rfl)) fun _ q106 => ?_;clear q105
  refine q106.t (.bool false) (ex_bin rfl (q106.e (j := 8) rfl) (q106.e (j := 13) rfl) (ltF _ _ (by omega) _)) fun _ q107 => ?_;clear q106
  refine wpList_nil ?_
  go_upto_region 6 with fail
  refine wp_cond_false (q107.e (j := 14) rfl) ?_
  go_upto_region 6 with fail
  refine wp_region_lit ?_
  refine q107.t (.int .i64 ((0 : Nat) : Int)) (ex_assign rfl rfl) fun _ q108 => ?_;clear q107
  have q109 := (((Rp.nil q108.z).cons (q108.a 0 rfl)).cons (q108.a 4 rfl))
  clear q108
  refine wpList_nil ?_
  go_upto_region 7 with fail
  refine v_loop 4 0 (fun j T wr => Rp T 133 [(4, gw true (.int .i64 (j : Int))), (0, gw true (.pointer (some ⟨q, 0, none⟩)))] ∧ Hid (Below w.heap.size w wr)) (fun j T w h => h.1.a 4 rfl) ⟨q109, b1⟩ ?_
  clear q109
  intro j2 T2 r2 hj2 hh2
  obtain ⟨q200, HJ2⟩ := hh2
  have b2 := HJ2.out
  clear HJ2
  have G2 := hG.later b2
  have B2 := G2.bb
  obtain rfl : j2 = 0 := by omega
  go_upto_region 7 with fail
  refine wp_region_lit ?_
  refine q200.t (.int .i64 ((0 : Nat) : Int)) (ex_move rfl (q200.e (j := 4) rfl)) fun _ q201 => ?_;clear q200
  refine q201.t (.pointer (some ⟨q, 0, none⟩)) (ex_move rfl (q201.e (j := 0) rfl)) fun _ q202 => ?_;clear q201
  refine q202.t (.pointer (some ⟨q, 0, none⟩)) (ex_nil rfl (q202.e (j := 34) rfl)) fun _ q203 => ?_;clear q202
  refine q203.t (.pointer (some ⟨q, 8, none⟩)) (ex_fa rfl (q203.e (j := 35) rfl) (faG q 8 (by decide) _)) fun _ q204 => ?_;clear q203
  refine q204.t (.slice none 0 0) (ex_ld rfl (q204.e (j := 36) rfl) (ldG8 ((B2.cell 8).trans rfl))) fun _ q205 => ?_;clear q204
  refine q205.t (.int .i64 ((0 : Nat) : Int)) (ex_lenG rfl rfl Try.underlying47 (q205.e (j := 37) rfl)) fun _ q206 => ?_;clear q205
  refine q206.t (.bool false) (ex_bin rfl (q206.e (j := 33) rfl) (q206.e (j := 38) rfl) (ltF _ _ (by omega) _)) fun _ q207 => ?_;clear q206
  refine wpList_nil ?_
  go_upto_region 11 with fail
  refine wp_cond_false (q207.e (j := 39) rfl) ?_
  go_upto_region 11 with fail
  refine wp_region_lit ?_
  refine q207.t (.int .i64 ((0 : Nat) : Int)) (ex_assign rfl rfl) fun _ q208 => ?_;clear q207
  have q209 := (((Rp.nil q208.z).cons (q208.a 0 rfl)).cons (q208.a 5 rfl))
  clear q208
  refine wpList_nil ?_
  go_upto_region 12 with fail
  refine v_loop 5 1 (fun j T wr => Rp T 133 [(5, gw true (.int .i64 (j : Int))), (0, gw true (.pointer (some ⟨q, 0, none⟩)))] ∧ Hid (Below w.heap.size w wr)) (fun j T w h => h.1.a 5 rfl) ⟨q209, b2⟩ ?_
  clear q209
  intro j3 T3 r3 hj3 hh3
  obtain ⟨q300, HJ3⟩ := hh3
  have b3 := HJ3.out
  clear HJ3
  have G3 := hG.later b3
  have B3 := G3.bb
  by_cases hit : j3 = 0
  · subst hit
    go_upto_region 12 with fail
    refine wp_region_lit ?_
    refine q300.t (.int .i64 ((0 : Nat) : Int)) (ex_move rfl (q300.e (j := 5) rfl)) fun _ q301 => ?_;clear q300
    refine q301.t (.pointer (some ⟨q, 0, none⟩)) (ex_move rfl (q301.e (j := 0) rfl)) fun _ q302 => ?_;clear q301
    refine q302.t (.pointer (some ⟨q, 0, none⟩)) (ex_nil rfl (q302.e (j := 59) rfl)) fun _ q303 => ?_;clear q302
    refine q303.t (.pointer (some ⟨q, 6, none⟩)) (ex_fa rfl (q303.e (j := 60) rfl) (faG q 6 (by decide) _)) fun _ q304 => ?_;clear q303
    refine q304.t (.slice (some ⟨h1, 0, none⟩) 1 k1) (ex_ld rfl (q304.e (j := 61) rfl) (ldNN ((B3.cell 6).trans rfl))) fun _ q305 => ?_;clear q304
    refine q305.t (.int .i64 ((1 : Nat) : Int)) (ex_lenG rfl rfl Try.underlying46 (q305.e (j := 62) rfl)) fun _ q306 => ?_;clear q305
    refine q306.t (.bool true) (ex_bin rfl (q306.e (j := 58) rfl) (q306.e (j := 63) rfl) (ltT _ _ (by omega) _)) fun _ q307 => ?_;clear q306
    refine wpList_nil ?_
    go_upto_region 14 with fail
    refine wp_cond_true (q307.e (j := 64) rfl) ?_
    go_upto_region 14 with fail
    refine vq_start (C := fun v => Below r3.heap.size r3 v) (by kernel_rfl) (by kernel_rfl) (Below.refl _ _).drew ?_
    refine q307.q (.pointer (some ⟨q, 0, none⟩)) (fun v hv => ex_move rfl (q307.e (j := 0) rfl)) fun _ q308 => ?_;clear q307
    refine q308.q (.pointer (some ⟨q, 0, none⟩)) (fun v hv => ex_nil rfl (q308.e (j := 67) rfl)) fun _ q309 => ?_;clear q308
    refine q309.q (.pointer (some ⟨q, 6, none⟩)) (fun v hv => ex_fa rfl (q309.e (j := 68) rfl) (faG q 6 (by decide) _)) fun _ q310 => ?_;clear q309
    refine q310.q (.slice (some ⟨h1, 0, none⟩) 1 k1) (fun v hv => ex_ld rfl (q310.e (j := 69) rfl) (ldNN (((B3.later hv).cell 6).trans rfl))) fun _ q311 => ?_;clear q310
    refine q311.q (.int .i64 ((0 : Nat) : Int)) (fun v hv => ex_move rfl (q311.e (j := 5) rfl)) fun _ q312 => ?_;clear q311
    refine q312.q (.pointer (some ⟨h1, 0 + 0, none⟩)) (fun v hv => ex_ix rfl (q312.e (j := 70) rfl) (q312.e (j := 71) rfl) (ixNN h1 0 1 k1 0 (by decide) _)) fun _ q313 => ?_;clear q312
    refine q313.q (.slice a1 M.length c1) (fun v hv => ex_ld rfl (q313.e (j := 72) rfl) (ldN1 (G3.later hv).e1)) fun _ q314 => ?_;clear q313
    refine q314.q (.pointer (some ⟨q, 0, none⟩)) (fun v hv => ex_move rfl (q314.e (j := 0) rfl)) fun _ q315 => ?_;clear q314
    refine q315.q (.pointer (some ⟨q, 0, none⟩)) (fun v hv => ex_nil rfl (q315.e (j := 74) rfl)) fun _ q316 => ?_;clear q315
    refine q316.q (.pointer (some ⟨q, 7, none⟩)) (fun v hv => ex_fa rfl (q316.e (j := 75) rfl) (faG q 7 (by decide) _)) fun _ q317 => ?_;clear q316
    refine q317.q (.slice (some ⟨h2, 0, none⟩) 1 k2) (fun v hv => ex_ld rfl (q317.e (j := 76) rfl) (ldNN (((B3.later hv).cell 7).trans rfl))) fun _ q318 => ?_;clear q317
    refine q318.q (.int .i64 ((0 : Nat) : Int)) (fun v hv => ex_move rfl (q318.e (j := 5) rfl)) fun _ q319 => ?_;clear q318
    refine q319.q (.pointer (some ⟨h2, 0 + 0, none⟩)) (fun v hv => ex_ix rfl (q319.e (j := 77) rfl) (q319.e (j := 78) rfl) (ixNN h2 0 1 k2 0 (by decide) _)) fun _ q320 => ?_;clear q319
    refine q320.q (.slice a2 M.length c2) (fun v hv => ex_ld rfl (q320.e (j := 79) rfl) (ldN1 (G3.later hv).e2)) fun _ q321 => ?_;clear q320
    refine vq_call18 (true) (.bool true) (want_none rfl) (fun hc v hv => ex_call rfl (by simp only [List.map_toArray, List.map_cons, List.map_nil, (q321.e (j := 73) rfl), (q321.e (j := 80) rfl), evc] <;> rfl) rfl) (fun hc v hv => bel18 hv (sameInts18 M a1 a2 c1 c2 v (G3.later hv).s1 (G3.later hv).s2 hbm) hv.size) rfl q321.z (by decide) (q321.k fun _ q322 => ?_);clear q321
    refine q322.q (.bool false) (fun v hv => ex_not rfl (q322.e (j := 81) rfl)) fun _ q323 => ?_;clear q322
    refine vq_nil (fun x1 hx1 => ?_)
    have q324 := ((((Rp.nil q323.z).cons (q323.a 0 rfl)).cons (q323.a 5 rfl)).cons (q323.a 82 rfl))
    clear q323
    go_upto_region 13 with fail
    refine wp_cond_false (q324.e (j := 82) rfl) ?_
    go_upto_region 13 with fail
    refine wp_region_lit ?_
    refine q324.t (.int .i64 ((0 : Nat) : Int)) (ex_move rfl (q324.e (j := 5) rfl)) fun _ q325 => ?_;clear q324
    refine q325.t (.int .i64 ((0 + 1 : Nat) : Int)) (ex_bin rfl (q325.e (j := 65) rfl) rfl (add1C _ _ 0 (by omega) _)) fun _ q326 => ?_;clear q325
    refine q326.t (.int .i64 ((0 + 1 : Nat) : Int)) (ex_assign rfl (q326.e (j := 66) rfl)) fun _ q327 => ?_;clear q326
    have q328 := (((Rp.nil q327.z).cons (q327.a 0 rfl)).cons (q327.a 5 rfl))
    clear q327
    refine wpList_nil ?_
    exact ⟨_, rfl, by omega, q328, b3.trans (hx1.mono b3.size)⟩
  · obtain rfl : j3 = 1 := by omega
    go_upto_region 12 with fail
    refine wp_region_lit ?_
    refine q300.t (.int .i64 ((1 : Nat) : Int)) (ex_move rfl (q300.e (j := 5) rfl)) fun _ q301 => ?_;clear q300
    refine q301.t (.pointer (some ⟨q, 0, none⟩)) (ex_move rfl (q301.e (j := 0) rfl)) fun _ q302 => ?_;clear q301
    refine q302.t (.pointer (some ⟨q, 0, none⟩)) (ex_nil rfl (q302.e (j := 59) rfl)) fun _ q303 => ?_;clear q302
    refine q303.t (.pointer (some ⟨q, 6, none⟩)) (ex_fa rfl (q303.e (j := 60) rfl) (faG q 6 (by decide) _)) fun _ q304 => ?_;clear q303
    refine q304.t (.slice (some ⟨h1, 0, none⟩) 1 k1) (ex_ld rfl (q304.e (j := 61) rfl) (ldNN ((B3.cell 6).trans rfl))) fun _ q305 => ?_;clear q304
    refine q305.t (.int .i64 ((1 : Nat) : Int)) (ex_lenG rfl rfl Try.underlying46 (q305.e (j := 62) rfl)) fun _ q306 => ?_;clear q305
    refine q306.t (.bool false) (ex_bin rfl (q306.e (j := 58) rfl) (q306.e (j := 63) rfl) (ltF _ _ (by omega) _)) fun _ q307 => ?_;clear q306
    refine wpList_nil ?_
    go_upto_region 16 with fail
    refine wp_cond_false (q307.e (j := 64) rfl) ?_
    go_upto_region 16 with fail
    refine wp_region_lit ?_
    refine q307.t (.int .i64 ((0 : Nat) : Int)) (ex_assign rfl rfl) fun _ q308 => ?_;clear q307
    have q309 := (((Rp.nil q308.z).cons (q308.a 0 rfl)).cons (q308.a 6 rfl))
    clear q308
    refine wpList_nil ?_
    go_upto_region 17 with fail
    refine v_loop 6 0 (fun j T wr => Rp T 133 [(6, gw true (.int .i64 (j : Int))), (0, gw true (.pointer (some ⟨q, 0, none⟩)))] ∧ Hid (Below w.heap.size w wr)) (fun j T w h => h.1.a 6 rfl) ⟨q309, b3⟩ ?_
    clear q309
    intro j4 T4 r4 hj4 hh4
    obtain ⟨q400, HJ4⟩ := hh4
    have b4 := HJ4.out
    clear HJ4
    have G4 := hG.later b4
    have B4 := G4.bb
    obtain rfl : j4 = 0 := by omega
    go_upto_region 17 with fail
    refine wp_region_lit ?_
    refine q400.t (.int .i64 ((0 : Nat) : Int)) (ex_move rfl (q400.e (j := 6) rfl)) fun _ q401 => ?_;clear q400
    refine q401.t (.pointer (some ⟨q, 0, none⟩)) (ex_move rfl (q401.e (j := 0) rfl)) fun _ q402 => ?_;clear q401
    refine q402.t (.pointer (some ⟨q, 0, none⟩)) (ex_nil rfl (q402.e (j := 84) rfl)) fun _ q403 => ?_;clear q402
    refine q403.t (.pointer (some ⟨q, 2, none⟩)) (ex_fa rfl (q403.e (j := 85) rfl) (faG q 2 (by decide) _)) fun _ q404 => ?_;clear q403
    refine q404.t (.slice none 0 0) (ex_ld rfl (q404.e (j := 86) rfl) (ldG2 ((B4.cell 2).trans rfl))) fun _ q405 => ?_;clear q404
    refine q405.t (.int .i64 ((0 : Nat) : Int)) (ex_lenG rfl rfl Try.underlying44 (q405.e (j := 87) rfl)) fun _ q406 => ?_;clear q405
    refine q406.t (.bool false) (ex_bin rfl (q406.e (j := 83) rfl) (q406.e (j := 88) rfl) (ltF _ _ (by omega) _)) fun _ q407 => ?_;clear q406
    refine wpList_nil ?_
    go_upto_region 21 with fail
    refine wp_cond_false (q407.e (j := 89) rfl) ?_
    go_upto_region 21 with fail
    refine wp_region_lit ?_
    refine q407.t (.int .i64 ((0 : Nat) : Int)) (ex_assign rfl rfl) fun _ q408 => ?_;clear q407
    have q409 := (((Rp.nil q408.z).cons (q408.a 0 rfl)).cons (q408.a 7 rfl))
    clear q408
    refine wpList_nil ?_
    go_upto_region 22 with fail
    refine v_loop 7 0 (fun j T wr => Rp T 133 [(7, gw true (.int .i64 (j : Int))), (0, gw true (.pointer (some ⟨q, 0, none⟩)))] ∧ Hid (Below w.heap.size w wr)) (fun j T w h => h.1.a 7 rfl) ⟨q409, b4⟩ ?_
    clear q409
    intro j5 T5 r5 hj5 hh5
    obtain ⟨q500, HJ5⟩ := hh5
    have b5 := HJ5.out
    clear HJ5
    have G5 := hG.later b5
    have B5 := G5.bb
    obtain rfl : j5 = 0 := by omega
    go_upto_region 22 with fail
    refine wp_region_lit ?_
    refine q500.t (.int .i64 ((0 : Nat) : Int)) (ex_move rfl (q500.e (j := 7) rfl)) fun _ q501 => ?_;clear q500
    refine q501.t (.pointer (some ⟨q, 0, none⟩)) (ex_move rfl (q501.e (j := 0) rfl)) fun _ q502 => ?_;clear q501
    refine q502.t (.pointer (some ⟨q, 0, none⟩)) (ex_nil rfl (q502.e (j := 109) rfl)) fun _ q503 => ?_;clear q502
    refine q503.t (.pointer (some ⟨q, 4, none⟩)) (ex_fa rfl (q503.e (j := 110) rfl) (faG q 4 (by decide) _)) fun _ q504 => ?_;clear q503
    refine q504.t (.slice none 0 0) (ex_ld rfl (q504.e (j := 111) rfl) (ldG4 ((B5.cell 4).trans rfl))) fun _ q505 => ?_;clear q504
    refine q505.t (.int .i64 ((0 : Nat) : Int)) (ex_lenG rfl rfl Try.underlying45 (q505.e (j := 112) rfl)) fun _ q506 => ?_;clear q505
    refine q506.t (.bool false) (ex_bin rfl (q506.e (j := 108) rfl) (q506.e (j := 113) rfl) (ltF _ _ (by omega) _)) fun _ q507 => ?_;clear q506
    refine wpList_nil ?_
    go_upto_region 26 with fail
    refine wp_cond_false (q507.e (j := 114) rfl) ?_
    go_upto_region 26 with fail
    refine wp_region_lit ?_
    refine q507.t (.bool true) (ex_assign rfl rfl) fun _ q508 => ?_;clear q507
    refine wpList_nil ?_
    go_wp2
    refine bodyPost_ret (results_tmp rfl _ _ _) rfl ⟨?_, b5⟩
    rw [getD_of (q508.a 2 rfl)]
    rfl
end Go.Proofs.Ytjkleldoeojbbaa

namespace Go.Proofs.Ytjkleldoeojbbaa
open Go.RowKit Go.Maps
open Classical
set_option linter.unusedVariables false
set_option linter.unusedSimpArgs false

/-! Entries: in lists, as keys. -/
structure En18 where
  c : Int
  n : Int
  o : Opn
def En18.cs (x : En18) : List Value := [.int .i64 x.c, .int .i64 x.n, .int .i64 x.o.k, .int .i64 x.o.s, .string x.o.v]
def En18.val (x : En18) : Value := .agg #[.int .i64 x.c, .int .i64 x.n, .int .i64 x.o.k, .int .i64 x.o.s, .string x.o.v]
structure En18.fits (x : En18) : Prop where
  cw : (Lit.int .i64 x.c).wf = true
  nw : (Lit.int .i64 x.n).wf = true
  ow : x.o.fits
def zE18 : En18 := ⟨0, 0, ⟨0, 0, ByteArray.empty⟩⟩
def yE18 : Lay En18 := ⟨92, 42, 5, 48, En18.cs, zE18⟩
theorem kE18 : yE18.Ok := ⟨by decide, fun x => rfl, fun x u h => by
    simp [yE18, En18.cs] at h
    rcases h with rfl | rfl | rfl | rfl | rfl <;> rfl, Try.underlying42, ⟨.agg #[.int .i64 0, .int .i64 0, .int .i64 0, .int .i64 0, .string ByteArray.empty], by kernel_rfl, rfl⟩⟩
def Kl.en (x : Kl) : En18 := ⟨x.c, x.n, x.o⟩
theorem Kl.fits.en {x : Kl} (h : x.fits) : x.en.fits := ⟨h.cw, h.nw, h.ow⟩
theorem info5e : (Try.prog.info? 92).map (·.size) = some 5 := by kernel_rfl
theorem ixE18 (q o n c j : Nat) (hj : j < n) (w : World) : (Instr.indexAt 42 (.slice (some ⟨q, o, none⟩) n c) (.int .i64 (j : Int))).run Try.prog w = .ok (.pointer (some ⟨q, o + j * 5, none⟩)) w := by
  have h1 : (j : Int) < (n : Int) := by omega
  go_simp
/-- The cells of an entry. -/
structure EAt (w : World) (q o : Nat) (x : En18) : Prop where
  lt : q < w.heap.size
  cl : ∀ (j : Nat) (u : Value), x.cs[j]? = some u → w.cell? ⟨q, o + j, none⟩ = some u
theorem SlY.en8 {w : World} {a : Option Addr} {n c : Nat} {L : List En18} (h : SlY yE18 w a n c L) {j : Nat} {x : En18} (hx : L[j]? = some x) : ∃ q o, a = some ⟨q, o, none⟩ ∧ EAt w q (o + j * 5) x := by
  obtain ⟨q, o, ea, hq, hl⟩ := h.place (by rintro rfl; simp at hx)
  exact ⟨q, o, ea, hq, fun i u hu => hl j x hx i u hu⟩
theorem EAt.later {w w' : World} {q o : Nat} {x : En18} (h : EAt w q o x) (hb : Below w.heap.size w w') : EAt w' q o x :=
  ⟨Nat.lt_of_lt_of_le h.lt hb.size, fun j u hu => (hb.cell (p := ⟨q, o + j, none⟩) h.lt).trans (h.cl j u hu)⟩
theorem EAt.ld {w : World} {q o : Nat} {x : En18} (h : EAt w q o x) : (Instr.loadAt 92 (.pointer (some ⟨q, o, none⟩))).run Try.prog w = .ok x.val w :=
  run_loadAt_mid (P := Try.prog) w q o 92 x.cs _ h.cl Try.underlying92 rfl info5e
theorem BB.ldE {w : World} {q : Nat} {T : TypeId} {x : En18} (h : BB w q T x.cs) : (Instr.loadAt 92 (.pointer (some ⟨q, 0, none⟩))).run Try.prog w = .ok x.val w := h.ld 92 Try.underlying92 rfl info5e
theorem oneE (x : En18) : x.cs.toArray.all (·.oneCell') = true := by
  rw [Array.all_eq_true_iff_forall_mem]
  intro u hu
  simp only [En18.cs, List.mem_toArray, List.mem_cons, List.not_mem_nil, or_false] at hu
  rcases hu with rfl | rfl | rfl | rfl | rfl <;> rfl
theorem BB.stE {w : World} {q : Nat} {T : TypeId} {x y : En18} (h : BB w q T y.cs) : (Instr.storeAt 92 (.pointer (some ⟨q, 0, none⟩)) x.val).run Try.prog w = .ok () (w.setCells q 0 x.cs) := h.st 92 x.cs rfl info5e (oneE x)
theorem alE18 (w : World) : (Instr.alloc 92 true (.tuple #[])).run Try.prog w = .ok (.pointer (some ⟨w.heap.size, 0, none⟩)) (w.alloc (.cells zE18.cs.toArray 92)) := by kernel_rfl
theorem bdM18 (w : World) : (Instr.build 92 #[(0, .int .i64 (-77)), (1, .int .i64 (-88))]).run Try.prog w = .ok (⟨-77, -88, ⟨0, 0, ⟨#[]⟩⟩⟩ : En18).val w := by unfold En18.val; go_simp
theorem bsE18 (x : En18) (w : World) : (Instr.buildSlice 42 1 #[(0, x.val)]).run Try.prog w = .ok (.slice (some ⟨w.heap.size, 0, none⟩) 1 1) (w.alloc (.cells x.cs.toArray 92)) := by unfold En18.val En18.cs; go_simp
theorem slToE (q o n c k : Nat) (h1 : k ≤ n) (h2 : k ≤ c) (w : World) : (Instr.sliceAt 42 (.slice (some ⟨q, o, none⟩) n c) none (some (.int .i64 (k : Int))) none).run Try.prog w = .ok (.slice (some ⟨q, o, none⟩) k c) w := by
  have h3 : (k : Int) ≤ (c : Int) := by omega
  go_simp
theorem neqEn18 (a b : Operand) (x : En18) (w : World) : (do eqGuard .neq 92 a b x.val x.val; binOp .neq 92 x.val x.val : Sem Value).run Try.prog w = .ok (.bool false) w := by
  rw [Sem.run_bind]
  have e : (eqGuard .neq 92 a b x.val x.val).run Try.prog w = .ok () w := by unfold En18.val; go_simp
  rw [e, Result.andThen_ok]
  unfold En18.val
  go_simp
def eEn (x y : En18) : Bool := decide (x.c = y.c) && (decide (x.n = y.n) && (decide (x.o.k = y.o.k) && (decide (x.o.s = y.o.s) && decide (x.o.v = y.o.v))))
theorem eEn_t {x y : En18} (h : x = y) : eEn x y = true := by subst h; simp [eEn]
theorem eEn_n {x y : En18} (h : ¬ x = y) : ¬ eEn x y = true := fun e => h (by
  obtain ⟨c, n, k, s, v⟩ := x
  obtain ⟨c', n', k', s', v'⟩ := y
  simp only [eEn, Bool.and_eq_true, decide_eq_true_eq] at e
  obtain ⟨rfl, rfl, rfl, rfl, rfl⟩ := e
  rfl)
theorem eEn_f {x y : En18} (h : ¬ x = y) : eEn x y = false := Bool.eq_false_iff.2 (eEn_n h)
theorem eEn_e {x y : En18} (h : eEn x y = true) : x = y := Classical.byContradiction fun e => eEn_n e h
theorem eqlEn18 (a b : Operand) (x y : En18) (w : World) : (do eqGuard .eql 92 a b x.val y.val; binOp .eql 92 x.val y.val : Sem Value).run Try.prog w = .ok (.bool (eEn x y)) w := by
  rw [Sem.run_bind]
  have e : (eqGuard .eql 92 a b x.val y.val).run Try.prog w = .ok () w := by unfold En18.val; go_simp
  rw [e, Result.andThen_ok]
  obtain ⟨c, n, k, s, v⟩ := x
  obtain ⟨c', n', k', s', v'⟩ := y
  have h : eEn (⟨c, n, ⟨k, s, v⟩⟩ : En18) ⟨c', n', ⟨k', s', v'⟩⟩ = (decide (c = c') && (decide (n = n') && (decide (k = k') && (decide (s = s') && decide (v = v'))))) := rfl
  rw [h]
  unfold En18.val
  go_simp
  by_cases e1 : c = c' <;> by_cases e2 : n = n' <;> by_cases e3 : k = k' <;> by_cases e4 : s = s' <;> by_cases e5 : v = v' <;> simp [e1, e2, e3, e4, e5, bytes_inj]
/-! An entry as a key. -/
def zEn : KeyT En18 := ⟨92, En18.val, En18.fits⟩
set_option maxRecDepth 100000 in
theorem rowEn : 92 < Try.prog.types.size := of_decide_eq_true (by kernel_rfl)
theorem cellsEn : Try.prog.cellsOf 92 = 5 := by kernel_rfl
theorem cellsOp : Try.prog.cellsOf 62 = 3 := by kernel_rfl
set_option maxRecDepth 100000 in
theorem lawEn : WideMaps.KeyLaw Try.prog 92 := deep_law_laid laidOutK (m := 3) (by omega) rowEn (by kernel_rfl) (by kernel_rfl)
theorem formedEn (k : En18) : (zEn.enc k).formed Try.prog 92 = true := by
  simp [zEn, En18.val, Value.formed, Try.underlying92, cellsEn]
set_option maxRecDepth 100000 in
theorem keyLitsOp (d : Nat) (k s : Int) (v : ByteArray) (hk : (Lit.int .i64 k).wf = true) (hs : (Lit.int .i64 s).wf = true) (hv : v.size ≤ maxLen) : Try.prog.keyLits (d + 2) 62 [.int .i64 k, .int .i64 s, .string v] = some [.int .i64 k, .int .i64 s, .string v.data.toList] := by
  simp [Program.keyLits, Try.underlying62, cellsOp, Try.underlying3, Try.underlying9, cellsI, cellsS, hk, hs, hv]
set_option maxRecDepth 100000 in
set_option maxHeartbeats 2000000 in
theorem keyOfEn (k : En18) (hk : zEn.ok k) : ∃ x : Lit, keyOf Try.prog 92 (zEn.enc k) = some x ∧ WideAt.IsKeyLit x := by
  have hl : ∃ l, Try.prog.keyLits (Try.prog.types.size + 1) 92 (zEn.enc k).cells.toList = some l := by
    obtain ⟨m, hm⟩ : ∃ m, Try.prog.types.size = m + 2 := ⟨Try.prog.types.size - 2, (Nat.sub_add_cancel (Nat.le_trans (by decide) (Nat.le_of_lt rowEn))).symm⟩
    rw [hm]
    have h3 := keyLitsOp m _ _ _ hk.ow.kw hk.ow.sw hk.ow.vl
    have h1 : Try.prog.keyLits (m + 2) 3 [.int .i64 k.c] = some [.int .i64 k.c] := by simp [Program.keyLits, Try.underlying3, hk.cw]
    have h2 : Try.prog.keyLits (m + 2) 3 [.int .i64 k.n] = some [.int .i64 k.n] := by simp [Program.keyLits, Try.underlying3, hk.nw]
    unfold Program.keyLits
    simp [Try.underlying92, zEn, En18.val, Value.cells, cellsEn, cellsOp, cellsI, h1, h2, h3]
  obtain ⟨l, hl⟩ := hl
  have kt : Try.prog.keyType 92 = true := by kernel_rfl
  simp only [keyOf, Try.underlying92, kt, formedEn, Bool.and_self, if_true, hl, Option.map_some]
  exact ⟨_, rfl, trivial⟩
theorem kEn : zEn.Ok := ⟨Keyed.of_law lawEn, keyOfEn, fun k k' x hk hk' h h' => by
  have e := lawEn.inj h h'
  obtain ⟨c, n, a, b, v⟩ := k
  obtain ⟨c', n', a', b', v'⟩ := k'
  simpa [zEn, En18.val, and_assoc] using e⟩

end Go.Proofs.Ytjkleldoeojbbaa

namespace Go.Proofs.Ytjkleldoeojbbaa
open Go.RowKit Go.Maps
open Classical
set_option linter.unusedVariables false
set_option linter.unusedSimpArgs false

def zNE : Lay (SV En18) := yS En18 42 45
theorem kzNE : zNE.Ok := kS Try.underlying45 (by kernel_rfl)
def mkE8 : En18 := ⟨-77, -88, ⟨0, 0, ⟨#[]⟩⟩⟩
def gE18 (x y : Value) : List Value := [nilS, nilS, nilS, nilS, x, y, nilS, nilS, nilS, nilS]
theorem ldE1 {w : World} {q o : Nat} {a : Option Addr} {n c : Nat} (h : w.cell? ⟨q, o, none⟩ = some (.slice a n c)) : (Instr.loadAt 42 (.pointer (some ⟨q, o, none⟩))).run Try.prog w = .ok (.slice a n c) w := by go_simp
theorem stNE {w : World} {q o : Nat} {u : Value} {a : Option Addr} {n c : Nat} (h : w.cell? ⟨q, o, none⟩ = some u) (hf : w.frozen? ⟨q, o, none⟩ = false) : (Instr.storeAt 45 (.pointer (some ⟨q, o, none⟩)) (.slice a n c)).run Try.prog w = .ok () (w.setCell ⟨q, o, none⟩ (.slice a n c)) := by go_simp
theorem bsNE (a : Option Addr) (n c : Nat) (w : World) : (Instr.buildSlice 45 1 #[(0, .slice a n c)]).run Try.prog w = .ok (.slice (some ⟨w.heap.size, 0, none⟩) 1 1) (w.alloc (.cells #[.slice a n c] 42)) := by go_simp
theorem ixNE (q o n c j : Nat) (hj : j < n) (w : World) : (Instr.indexAt 45 (.slice (some ⟨q, o, none⟩) n c) (.int .i64 (j : Int))).run Try.prog w = .ok (.pointer (some ⟨q, o + j, none⟩)) w := by
  have h1 : (j : Int) < (n : Int) := by omega
  go_simp
/-- A Given that has lists of entries alone, one of each. -/
structure GE8 (w : World) (q h1 h2 k1 k2 : Nat) (a1 : Option Addr) (c1 : Nat) (a2 : Option Addr) (c2 : Nat) (M : List En18) : Prop where
  bb : BB w q 49 (gE18 (.slice (some ⟨h1, 0, none⟩) 1 k1) (.slice (some ⟨h2, 0, none⟩) 1 k2))
  l1 : h1 < w.heap.size
  l2 : h2 < w.heap.size
  e1 : w.cell? ⟨h1, 0, none⟩ = some (.slice a1 M.length c1)
  e2 : w.cell? ⟨h2, 0, none⟩ = some (.slice a2 M.length c2)
  s1 : SlY yE18 w a1 M.length c1 M
  s2 : SlY yE18 w a2 M.length c2 M
theorem GE8.later {w w' : World} {q h1 h2 k1 k2 : Nat} {a1 : Option Addr} {c1 : Nat} {a2 : Option Addr} {c2 : Nat} {M : List En18} (h : GE8 w q h1 h2 k1 k2 a1 c1 a2 c2 M) (hb : Below w.heap.size w w') : GE8 w' q h1 h2 k1 k2 a1 c1 a2 c2 M :=
  ⟨h.bb.later hb, Nat.lt_of_lt_of_le h.l1 hb.size, Nat.lt_of_lt_of_le h.l2 hb.size, (hb.cell (p := ⟨h1, 0, none⟩) h.l1).trans h.e1, (hb.cell (p := ⟨h2, 0, none⟩) h.l2).trans h.e2, h.s1.later hb, h.s2.later hb⟩
set_option maxRecDepth 100000 in
set_option maxHeartbeats 2000000 in
theorem copyEntries18 (O : List En18) (a : Option Addr) (c : Nat) (w : World) (h : SlY yE18 w a O.length c O) (hb : O.length * 48 ≤ 140737488355328) :
    Calls Try.prog 36 #[.slice a O.length c] w fun e w' => ∃ v, e = .returned v ∧ OwnY yE18 w.heap.size w' v O ∧ Below w.heap.size w w' := by
  go_enter Try.func36, Try.ntmps36
  go_upto_region 0 with fail
  refine wp_region_lit ?_
  refine vl_gen (fun T => Rp T 5 [(0, gw true (.slice a O.length c))]) ((Rp.nil rfl).cons rfl) (fun Z0 q0 => ?_)
  refine q0.t (.slice none 0 0) (ex_assign rfl rfl) fun _ q1 => ?_;clear q0
  refine wpList_nil ?_
  go_upto_region 1 with fail
  refine wp_region_lit ?_
  refine q1.t (.slice a O.length c) (ex_move rfl (q1.e (j := 0) rfl)) fun _ q2 => ?_;clear q1
  obtain ⟨v1, w1, ha1, o1, g1, _⟩ := run_appY kE18 w 42 w.heap.size [] (.slice none 0 0) a O.length c O h (OwnY.nil _ _ _) (Nat.le_refl _) (by unfold maxLen; simp; omega) (by show (([] : List En18).length + O.length) * 48 ≤ _; simp; omega)
  rw [List.nil_append] at o1
  have b1 : Below w.heap.size w w1 := (Below.refl _ _).grown g1 (Nat.le_refl _) (fun k hk => by cases hk)
  refine vw (v1) w1 (want_none rfl) (ex_app18 rfl rfl (q2.e (j := 3) rfl) ha1) rfl q2.z (by decide) (q2.k fun _ q3 => ?_);clear q2
  refine q3.t (v1) (ex_assign rfl (q3.e (j := 4) rfl)) fun _ q4 => ?_;clear q3
  refine wpList_nil ?_
  go_wp2
  refine bodyPost_ret (results_tmp rfl _ _ _) rfl ⟨v1, ?_, o1, b1⟩
  rw [getD_of (q4.a 2 rfl)]
  rfl
set_option maxRecDepth 100000 in
set_option maxHeartbeats 2000000 in
theorem sameEntries18 (L : List En18) (a a2 : Option Addr) (c c2 : Nat) (w : World) (h : SlY yE18 w a L.length c L) (h2 : SlY yE18 w a2 L.length c2 L) (hbn : L.length ≤ 140737488355328) :
    Calls Try.prog 42 #[.slice a L.length c, .slice a2 L.length c2] w fun e w' => e = .returned (.bool true) ∧ Below w.heap.size w w' := by
  go_enter Try.func42, Try.ntmps42
  go_upto_region 0 with fail
  refine wp_region_lit ?_
  refine vl_gen (fun T => Rp T 26 [(1, gw true (.slice a2 L.length c2)), (0, gw true (.slice a L.length c))]) (((Rp.nil rfl).cons rfl).cons rfl) (fun Z0 q0 => ?_)
  refine q0.t (.bool false) (ex_assign rfl rfl) fun _ q1 => ?_;clear q0
  refine wpList_nil ?_
  go_upto_region 1 with fail
  refine wp_region_lit ?_
  refine q1.t (.slice a L.length c) (ex_move rfl (q1.e (j := 0) rfl)) fun _ q2 => ?_;clear q1
  refine q2.t (.int .i64 (L.length : Int)) (ex_lenG rfl rfl Try.underlying42 (q2.e (j := 6) rfl)) fun _ q3 => ?_;clear q2
  refine q3.t (.slice a2 L.length c2) (ex_move rfl (q3.e (j := 1) rfl)) fun _ q4 => ?_;clear q3
  refine q4.t (.int .i64 (L.length : Int)) (ex_lenG rfl rfl Try.underlying42 (q4.e (j := 8) rfl)) fun _ q5 => ?_;clear q4
  refine q5.t (.bool false) (ex_bin rfl (q5.e (j := 7) rfl) (q5.e (j := 9) rfl) (neqNn _ _ _ _)) fun _ q6 => ?_;clear q5
  refine wpList_nil ?_
  go_upto_region 3 with fail
  refine wp_cond_false (q6.e (j := 10) rfl) ?_
  go_upto_region 3 with fail
  refine wp_region_lit ?_
  refine q6.t (.int .i64 ((0 : Nat) : Int)) (ex_assign rfl rfl) fun _ q7 => ?_;clear q6
  have q8 := ((((Rp.nil q7.z).cons (q7.a 0 rfl)).cons (q7.a 1 rfl)).cons (q7.a 5 rfl))
  clear q7
  refine wpList_nil ?_
  go_upto_region 4 with fail
  refine v_loop 5 L.length (fun j T wr => Rp T 26 [(5, gw true (.int .i64 (j : Int))), (1, gw true (.slice a2 L.length c2)), (0, gw true (.slice a L.length c))] ∧ Hid (Below w.heap.size w wr)) (fun j T w h => h.1.a 5 rfl) ⟨q8, Below.refl _ _⟩ ?_
  clear q8
  intro j T wr hj hh
  obtain ⟨q100, HJ⟩ := hh
  have br := HJ.out
  clear HJ
  by_cases hit : j < L.length
  · obtain ⟨x, hx⟩ : ∃ x, L[j]? = some x := ⟨_, List.getElem?_eq_getElem hit⟩
    obtain ⟨qa, oa, hqa, hca⟩ := (h.on br (Nat.le_refl _)).en8 hx
    obtain ⟨qb, ob, hqb, hcb⟩ := (h2.on br (Nat.le_refl _)).en8 hx
    go_upto_region 4 with fail
    refine wp_region_lit ?_
    refine q100.t (.int .i64 (j : Int)) (ex_move rfl (q100.e (j := 5) rfl)) fun _ q101 => ?_;clear q100
    refine q101.t (.slice a L.length c) (ex_move rfl (q101.e (j := 0) rfl)) fun _ q102 => ?_;clear q101
    refine q102.t (.int .i64 (L.length : Int)) (ex_lenG rfl rfl Try.underlying42 (q102.e (j := 12) rfl)) fun _ q103 => ?_;clear q102
    refine q103.t (.bool true) (ex_bin rfl (q103.e (j := 11) rfl) (q103.e (j := 13) rfl) (ltT _ _ hit _)) fun _ q104 => ?_;clear q103
    refine wpList_nil ?_
    go_upto_region 6 with fail
    refine wp_cond_true (q104.e (j := 14) rfl) ?_
    go_upto_region 6 with fail
    refine vq_start (C := fun v => Below wr.heap.size wr v) (by kernel_rfl) (by kernel_rfl) (Below.refl _ _).drew ?_
    refine q104.q (.slice a L.length c) (fun v hv => ex_move rfl (q104.e (j := 0) rfl)) fun _ q105 => ?_;clear q104
    refine q105.q (.int .i64 (j : Int)) (fun v hv => ex_move rfl (q105.e (j := 5) rfl)) fun _ q106 => ?_;clear q105
    refine q106.q (.pointer (some ⟨qa, oa + j * 5, none⟩)) (fun v hv => ex_ix rfl (q106.e (j := 17) rfl) (q106.e (j := 18) rfl) (by rw [hqa]; exact ixE18 qa oa L.length c j hit _)) fun _ q107 => ?_;clear q106
    refine q107.q (x.val) (fun v hv => ex_ld rfl (q107.e (j := 19) rfl) (hca.later hv).ld) fun _ q108 => ?_;clear q107
    refine q108.q (.slice a2 L.length c2) (fun v hv => ex_move rfl (q108.e (j := 1) rfl)) fun _ q109 => ?_;clear q108
    refine q109.q (.int .i64 (j : Int)) (fun v hv => ex_move rfl (q109.e (j := 5) rfl)) fun _ q110 => ?_;clear q109
    refine q110.q (.pointer (some ⟨qb, ob + j * 5, none⟩)) (fun v hv => ex_ix rfl (q110.e (j := 21) rfl) (q110.e (j := 22) rfl) (by rw [hqb]; exact ixE18 qb ob L.length c2 j hit _)) fun _ q111 => ?_;clear q110
    refine q111.q (x.val) (fun v hv => ex_ld rfl (q111.e (j := 23) rfl) (hcb.later hv).ld) fun _ q112 => ?_;clear q111
    refine q112.q (.bool false) (fun v hv => ex_bin rfl (q112.e (j := 20) rfl) (q112.e (j := 24) rfl) (neqEn18 _ _ x _)) fun _ q113 => ?_;clear q112
    refine vq_nil (fun r1 hr1 => ?_)
    have q114 := (((((Rp.nil q113.z).cons (q113.a 0 rfl)).cons (q113.a 1 rfl)).cons (q113.a 5 rfl)).cons (q113.a 25 rfl))
    clear q113
    go_upto_region 5 with fail
    refine wp_cond_false (q114.e (j := 25) rfl) ?_
    go_upto_region 5 with fail
    refine wp_region_lit ?_
    refine q114.t (.int .i64 (j : Int)) (ex_move rfl (q114.e (j := 5) rfl)) fun _ q115 => ?_;clear q114
    refine q115.t (.int .i64 ((j + 1 : Nat) : Int)) (ex_bin rfl (q115.e (j := 15) rfl) rfl (add1C _ _ j (by omega) _)) fun _ q116 => ?_;clear q115
    refine q116.t (.int .i64 ((j + 1 : Nat) : Int)) (ex_assign rfl (q116.e (j := 16) rfl)) fun _ q117 => ?_;clear q116
    have q118 := ((((Rp.nil q117.z).cons (q117.a 0 rfl)).cons (q117.a 1 rfl)).cons (q117.a 5 rfl))
    clear q117
    refine wpList_nil ?_
    exact ⟨_, rfl, hit, q118, br.trans (hr1.mono br.size)⟩
  · obtain rfl : j = L.length := by omega
    go_upto_region 4 with fail
    refine wp_region_lit ?_
    refine q100.t (.int .i64 (L.length : Int)) (ex_move rfl (q100.e (j := 5) rfl)) fun _ q101 => ?_;clear q100
    refine q101.t (.slice a L.length c) (ex_move rfl (q101.e (j := 0) rfl)) fun _ q102 => ?_;clear q101
    refine q102.t (.int .i64 (L.length : Int)) (ex_lenG rfl rfl Try.underlying42 (q102.e (j := 12) rfl)) fun _ q103 => ?_;clear q102
    refine q103.t (.bool false) (ex_bin rfl (q103.e (j := 11) rfl) (q103.e (j := 13) rfl) (ltF _ _ hit _)) fun _ q104 => ?_;clear q103
    refine wpList_nil ?_
    go_upto_region 8 with fail
    refine wp_cond_false (q104.e (j := 14) rfl) ?_
    go_upto_region 8 with fail
    refine wp_region_lit ?_
    refine q104.t (.bool true) (ex_assign rfl rfl) fun _ q105 => ?_;clear q104
    refine wpList_nil ?_
    go_wp2
    refine bodyPost_ret (results_tmp rfl _ _ _) rfl ⟨?_, br⟩
    rw [getD_of (q105.a 4 rfl)]
    rfl
set_option maxRecDepth 100000 in
set_option maxHeartbeats 2000000 in
theorem givenEntries18 (O : List En18) (a : Option Addr) (c q : Nat) (w : World) (h : SlY yE18 w a O.length c O) (hb : O.length * 48 ≤ 140737488351232) (hB : BB w q 49 (gE18 nilS nilS)) :
    Calls Try.prog 24 #[.pointer (some ⟨q, 0, none⟩), .slice a O.length c] w fun e w' => ∃ a' c', e = .returned (.slice a' O.length c') ∧ SlY yE18 w' a' O.length c' O ∧ (∃ h1 h2 k1 k2 a1 c1 a2 c2, GE8 w' q h1 h2 k1 k2 a1 c1 a2 c2 (O ++ [mkE8])) ∧ Upd (fun k => k = q) w w' := by
  have hmx := h.max
  have hcp := h.cap
  unfold maxLen at hmx
  go_enter Try.func24, Try.ntmps24
  go_upto_region 0 with fail
  refine wp_region_lit ?_
  refine vl_gen (fun T => Rp T 36 [(1, gw true (.slice a O.length c)), (0, gw true (.pointer (some ⟨q, 0, none⟩)))]) (((Rp.nil rfl).cons rfl).cons rfl) (fun Z0 q0 => ?_)
  refine q0.t (.slice none 0 0) (ex_assign rfl rfl) fun _ q1 => ?_;clear q0
  refine wpList_nil ?_
  go_upto_region 1 with fail
  refine wp_region_lit ?_
  refine q1.t (.slice a O.length c) (ex_move rfl (q1.e (j := 1) rfl)) fun _ q2 => ?_;clear q1
  refine vcallP (want_none rfl) (ex_call rfl (by simp only [List.map_toArray, List.map_cons, List.map_nil, (q2.e (j := 6) rfl), evc] <;> rfl) rfl) (copyEntries18 O a c w h (by omega)) rfl q2.z (by decide) ?_
  rintro e w1 ⟨v7, rfl, o7, b1⟩
  refine ⟨_, rfl, q2.k fun _ q3 => ?_⟩;clear q2
  have z1 := b1.size
  refine q3.t (mkE8.val) (ex_buildP18 (P := #[(0, .int .i64 (-77)), (1, .int .i64 (-88))]) rfl (by simp only [List.map_toArray, List.map_cons, List.map_nil, evc] <;> rfl) (bdM18 _)) fun _ q4 => ?_;clear q3
  obtain ⟨w2, hw2⟩ : ∃ y, y = w1.alloc (.cells mkE8.cs.toArray 92) := ⟨_, rfl⟩
  refine vw (.slice (some ⟨w1.heap.size, 0, none⟩) 1 1) w2 (want_none rfl) (ex_bs18 rfl (q4.e (j := 8) rfl) (by rw [hw2]; exact bsE18 _ _)) rfl q4.z (by decide) (q4.k fun _ q5 => ?_);clear q4
  have s2 : SlY yE18 w2 (some ⟨w1.heap.size, 0, none⟩) 1 1 [mkE8] := by rw [hw2]; exact sl_box (Y := yE18) w1 mkE8 92
  have b2 : Below w1.heap.size w1 w2 := by rw [hw2]; exact (Below.refl _ _).alloc (Nat.le_refl _) _
  clear hw2
  have z2 := b2.size
  obtain ⟨v9, w3, ha3, o9, g3, _⟩ := run_appY kE18 w2 42 w.heap.size O v7 _ 1 1 [mkE8] s2 (o7.grow b2) (by omega) (by unfold maxLen; omega) (by show (O.length + 1) * 48 ≤ _; omega)
  have b3 : Below w.heap.size w w3 := (b1.trans (b2.mono z1)).grown g3 (by omega) (fun k hk => (o7.blk k hk).1)
  have z3 := b3.size
  obtain ⟨a9, c9, hv9, s9, hz9⟩ := o9.sl kE18
  have hlen : (O ++ [mkE8]).length = O.length + 1 := by simp
  refine vw (v9) w3 (want_none rfl) (ex_app18 rfl (q5.e (j := 7) rfl) (q5.e (j := 9) rfl) ha3) rfl q5.z (by decide) (q5.k fun _ q6 => ?_);clear q5
  refine q6.t (v9) (ex_assign rfl (q6.e (j := 10) rfl)) fun _ q7 => ?_;clear q6
  have q8 := ((((Rp.nil q7.z).cons (q7.a 0 rfl)).cons (q7.a 1 rfl)).cons (q7.a 5 rfl))
  clear q7
  refine wpList_nil ?_
  go_upto_region 2 with fail
  refine wp_region_lit ?_
  have hB3 := hB.later b3
  refine q8.t (.pointer (some ⟨q, 0, none⟩)) (ex_move rfl (q8.e (j := 0) rfl)) fun _ q9 => ?_;clear q8
  refine q9.t (.pointer (some ⟨q, 0, none⟩)) (ex_move rfl (q9.e (j := 0) rfl)) fun _ q10 => ?_;clear q9
  refine q10.t (.pointer (some ⟨q, 0, none⟩)) (ex_nil rfl (q10.e (j := 12) rfl)) fun _ q11 => ?_;clear q10
  refine q11.t (.pointer (some ⟨q, 4, none⟩)) (ex_fa rfl (q11.e (j := 13) rfl) (faG q 4 (by decide) _)) fun _ q12 => ?_;clear q11
  refine q12.t (.slice none 0 0) (ex_ld rfl (q12.e (j := 14) rfl) (ldG4 ((hB3.cell 4).trans rfl))) fun _ q13 => ?_;clear q12
  refine q13.t (v9) (ex_move rfl (q13.e (j := 5) rfl)) fun _ q14 => ?_;clear q13
  obtain ⟨w4, hw4⟩ : ∃ y, y = w3.alloc (.cells #[.slice a9 (O ++ [mkE8]).length c9] 42) := ⟨_, rfl⟩
  refine vw (.slice (some ⟨w3.heap.size, 0, none⟩) 1 1) w4 (want_none rfl) (ex_bs18 rfl ((q14.e (j := 16) rfl).trans hv9) (by rw [hw4]; exact bsNE _ _ _ _)) rfl q14.z (by decide) (q14.k fun _ q15 => ?_);clear q14
  have s4 : SlY zNE w4 (some ⟨w3.heap.size, 0, none⟩) 1 1 [⟨a9, c9, (O ++ [mkE8])⟩] := by rw [hw4]; exact sl_box (Y := zNE) w3 ⟨a9, c9, (O ++ [mkE8])⟩ 42
  have b4 : Below w3.heap.size w3 w4 := by rw [hw4]; exact (Below.refl _ _).alloc (Nat.le_refl _) _
  clear hw4
  have z4 := b4.size
  obtain ⟨v17, w5, ha5, o17, g5, _⟩ := run_appY kzNE w4 45 w4.heap.size [] (.slice none 0 0) _ 1 1 [⟨a9, c9, (O ++ [mkE8])⟩] s4 (OwnY.nil _ _ _) (Nat.le_refl _) (by unfold maxLen; simp) (by show (([] : List (SV En18)).length + 1) * 24 ≤ _; simp)
  rw [List.nil_append] at o17
  have b5 : Below w4.heap.size w4 w5 := (Below.refl _ _).grown g5 (Nat.le_refl _) (fun k hk => by cases hk)
  have z5 := b5.size
  obtain ⟨h1, k1, hvv17, hgv17, hglv17⟩ : ∃ g k, v17 = .slice (some ⟨g, 0, none⟩) 1 k ∧ w4.heap.size ≤ g ∧ g < w5.heap.size := by
    obtain ⟨aa, cc, e1, _, _, e2, e3⟩ := o17.form
    cases aa with
    | none => have := (e2 rfl).1; simp at this
    | some z => obtain ⟨g, e4, e5, e6⟩ := e3 z rfl; exact ⟨g, cc, by rw [e1, e4]; rfl, e5, e6⟩
  have hc17 : w5.cell? ⟨h1, 0, none⟩ = some (.slice a9 (O ++ [mkE8]).length c9) := by rw [hvv17] at o17; have := o17.cell kzNE 0 _ rfl 0 _ rfl; simpa [zNE, yS] using this
  refine vw (v17) w5 (want_none rfl) (ex_app18 rfl (q15.e (j := 15) rfl) (q15.e (j := 17) rfl) ha5) rfl q15.z (by decide) (q15.k fun _ q16 => ?_);clear q15
  refine q16.t (.pointer (some ⟨q, 0, none⟩)) (ex_nil rfl (q16.e (j := 11) rfl)) fun _ q17 => ?_;clear q16
  refine q17.t (.pointer (some ⟨q, 4, none⟩)) (ex_fa rfl (q17.e (j := 19) rfl) (faG q 4 (by decide) _)) fun _ q18 => ?_;clear q17
  have b35 : Below w3.heap.size w3 w5 := b4.trans (b5.mono z4)
  have hB5 := hB3.later b35
  obtain ⟨w6, hw6⟩ : ∃ y, y = w5.setCell ⟨q, 4, none⟩ v17 := ⟨_, rfl⟩
  refine vs w6 (want_none rfl) (ex_st rfl (q18.e (j := 20) rfl) (q18.e (j := 18) rfl) (by rw [hw6, hvv17]; exact stNE ((hB5.cell 4).trans rfl) (hB5.free 4))) rfl ?_
  have u6 : Upd (fun k => k = q) w5 w6 := by rw [hw6]; exact (Upd.refl (fun k => k = q) _).setCell (p := ⟨q, 4, none⟩) (.inl rfl) _
  have hB6 : BB w6 q 49 (gE18 v17 nilS) := by rw [hw6]; exact hB5.set1 4 v17
  clear hw6
  have z6 := u6.size
  have hql := hB.lt
  have hc176 := (u6.cell (p := ⟨h1, 0, none⟩) hglv17 (by show ¬ h1 = q; omega)).trans hc17
  have s95 := s9.on b35 (Nat.le_refl _)
  have s96 : SlY yE18 w6 a9 (O ++ [mkE8]).length c9 (O ++ [mkE8]) := s95.upd u6 (fun z hz _ => by obtain ⟨gg, e, e2, _⟩ := hz9 z hz; rw [e]; show ¬ gg = q; omega)
  have uw6 : Upd (fun k => k = q) w w6 := (Upd.of_below (b3.trans (b35.mono z3))).trans18 u6 (fun _ _ h => h)
  have q19 := ((((Rp.nil q18.z).cons (q18.a 0 rfl)).cons (q18.a 1 rfl)).cons (q18.a 5 rfl))
  clear q18
  refine wpList_nil ?_
  go_upto_region 3 with fail
  refine vg_start (fun k => k == 11) (fun v => BB v q 49 (gE18 v17 nilS)) (by kernel_rfl) ?_
  have hd : Below w6.heap.size w6 w6.drew := (Below.refl _ _).drew
  have hzd : w6.drew.heap.size = w6.heap.size := rfl
  generalize w6.drew = d at *
  have hBd := hB6.later hd
  refine vg_takeW 0 true (.pointer (some ⟨q, 0, none⟩)) rfl (by kernel_rfl) (by kernel_rfl) (by kernel_rfl) (by kernel_rfl) (want_none rfl) (fun hc v => ex_move rfl (q19.e (j := 0) rfl)) rfl q19.z (by decide) (fun _ => hBd) (q19.k fun _ q20 => ?_);clear q19
  refine vg_takeW 1 true (.pointer (some ⟨q, 0, none⟩)) rfl (by kernel_rfl) (by kernel_rfl) (by kernel_rfl) (by kernel_rfl) (want_none rfl) (fun hc v => ex_move rfl (q20.e (j := 0) rfl)) rfl q20.z (by decide) (fun _ => hBd) (q20.k fun _ q21 => ?_);clear q20
  refine vg_takeW 2 true (.pointer (some ⟨q, 0, none⟩)) rfl (by kernel_rfl) (by kernel_rfl) (by kernel_rfl) (by kernel_rfl) (want_none rfl) (fun hc v => ex_nil rfl (q21.e (j := 22) rfl)) rfl q21.z (by decide) (fun _ => hBd) (q21.k fun _ q22 => ?_);clear q21
  refine vg_takeW 3 true (.pointer (some ⟨q, 5, none⟩)) rfl (by kernel_rfl) (by kernel_rfl) (by kernel_rfl) (by kernel_rfl) (want_none rfl) (fun hc v => ex_fa rfl (q22.e (j := 23) rfl) (faG q 5 (by decide) _)) rfl q22.z (by decide) (fun _ => hBd) (q22.k fun _ q23 => ?_);clear q22
  refine vg_take 4 true (.slice none 0 0) rfl (by kernel_rfl) (by kernel_rfl) (by kernel_rfl) (by kernel_rfl) (by kernel_rfl) (by kernel_rfl) (want_none rfl) (fun hc v hv => ex_ld rfl (q23.e (j := 24) rfl) (ldG4 ((hv.cell 5).trans rfl))) rfl q23.z (by decide) hBd (q23.k fun _ q24 => ?_);clear q23
  refine vg_takeW 5 true (v9) rfl (by kernel_rfl) (by kernel_rfl) (by kernel_rfl) (by kernel_rfl) (want_none rfl) (fun hc v => ex_move rfl (q24.e (j := 5) rfl)) rfl q24.z (by decide) (fun _ => hBd) (q24.k fun _ q25 => ?_);clear q24
  refine vg_call 6 rfl (by kernel_rfl) (want_none rfl) (ex_call rfl (by simp only [List.map_toArray, List.map_cons, List.map_nil, (q25.e (j := 26) rfl).trans hv9, evc] <;> rfl) rfl) (copyEntries18 (O ++ [mkE8]) a9 c9 d (s96.later hd) (by rw [hlen]; omega)) rfl q25.z (by decide) ?_
  rintro e d1 ⟨v26, rfl, o26, bd1⟩
  have zd1 := bd1.size
  have hB7 := hBd.later bd1
  refine ⟨_, rfl, hB7, q25.k fun _ q26 => ?_⟩;clear q25
  obtain ⟨a26, c26, hv26, s26, hz26⟩ := o26.sl kE18
  obtain ⟨d2, hd2⟩ : ∃ y, y = d1.alloc (.cells #[.slice a26 (O ++ [mkE8]).length c26] 42) := ⟨_, rfl⟩
  have bd2 : Below d1.heap.size d1 d2 := by rw [hd2]; exact (Below.refl _ _).alloc (Nat.le_refl _) _
  have zd2 := bd2.size
  have hB8 := hB7.later bd2
  refine vg_val 7 (.slice (some ⟨d1.heap.size, 0, none⟩) 1 1) d2 rfl (by kernel_rfl) (want_none rfl) (ex_bs18 rfl ((q26.e (j := 27) rfl).trans hv26) (by rw [hd2]; exact bsNE _ _ _ _)) rfl q26.z (by decide) (fun _ => hB8) (q26.k fun _ q27 => ?_);clear q26
  have sd2 : SlY zNE d2 (some ⟨d1.heap.size, 0, none⟩) 1 1 [⟨a26, c26, (O ++ [mkE8])⟩] := by rw [hd2]; exact sl_box (Y := zNE) d1 ⟨a26, c26, (O ++ [mkE8])⟩ 42
  clear hd2
  obtain ⟨v28, d3, hap, o28, g28, _⟩ := run_appY kzNE d2 45 d2.heap.size [] (.slice none 0 0) _ 1 1 [⟨a26, c26, (O ++ [mkE8])⟩] sd2 (OwnY.nil _ _ _) (Nat.le_refl _) (by unfold maxLen; simp) (by show (([] : List (SV En18)).length + 1) * 24 ≤ _; simp)
  rw [List.nil_append] at o28
  have bd3 : Below d2.heap.size d2 d3 := (Below.refl _ _).grown g28 (Nat.le_refl _) (fun k hk => by cases hk)
  have zd3 := bd3.size
  have hB9 := hB8.later bd3
  obtain ⟨h2, k2, hvv28, hgv28, hglv28⟩ : ∃ g k, v28 = .slice (some ⟨g, 0, none⟩) 1 k ∧ d2.heap.size ≤ g ∧ g < d3.heap.size := by
    obtain ⟨aa, cc, e1, _, _, e2, e3⟩ := o28.form
    cases aa with
    | none => have := (e2 rfl).1; simp at this
    | some z => obtain ⟨g, e4, e5, e6⟩ := e3 z rfl; exact ⟨g, cc, by rw [e1, e4]; rfl, e5, e6⟩
  have hc28 : d3.cell? ⟨h2, 0, none⟩ = some (.slice a26 (O ++ [mkE8]).length c26) := by rw [hvv28] at o28; have := o28.cell kzNE 0 _ rfl 0 _ rfl; simpa [zNE, yS] using this
  refine vg_val 8 v28 d3 rfl (by kernel_rfl) (want_none rfl) (ex_app18 rfl (q27.e (j := 25) rfl) (q27.e (j := 28) rfl) hap) rfl q27.z (by decide) (fun _ => hB9) (q27.k fun _ q28 => ?_);clear q27
  refine vg_takeW 9 true (.pointer (some ⟨q, 0, none⟩)) rfl (by kernel_rfl) (by kernel_rfl) (by kernel_rfl) (by kernel_rfl) (want_none rfl) (fun hc v => ex_nil rfl (q28.e (j := 21) rfl)) rfl q28.z (by decide) (fun _ => hB9) (q28.k fun _ q29 => ?_);clear q28
  refine vg_takeW 10 true (.pointer (some ⟨q, 5, none⟩)) rfl (by kernel_rfl) (by kernel_rfl) (by kernel_rfl) (by kernel_rfl) (want_none rfl) (fun hc v => ex_fa rfl (q29.e (j := 30) rfl) (faG q 5 (by decide) _)) rfl q29.z (by decide) (fun _ => hB9) (q29.k fun _ q30 => ?_);clear q29
  obtain ⟨d4, hd4⟩ : ∃ y, y = d3.setCell ⟨q, 5, none⟩ v28 := ⟨_, rfl⟩
  refine vg_store 11 d4 rfl (by kernel_rfl) (by kernel_rfl) (want_none rfl) (ex_st rfl (q30.e (j := 31) rfl) (q30.e (j := 29) rfl) (by rw [hd4, hvv28]; exact stNE ((hB9.cell 5).trans rfl) (hB9.free 5))) rfl ?_
  have u4 : Upd (fun k => k = q) d3 d4 := by rw [hd4]; exact (Upd.refl (fun k => k = q) _).setCell (p := ⟨q, 5, none⟩) (.inl rfl) _
  have hB10 : BB d4 q 49 (gE18 v17 v28) := by rw [hd4]; exact hB9.set1 5 v28
  clear hd4
  have z4d := u4.size
  refine vg_done (by kernel_rfl) ?_
  have q31 := ((((Rp.nil q30.z).cons (q30.a 0 rfl)).cons (q30.a 1 rfl)).cons (q30.a 5 rfl))
  clear q30
  have bdd : Below w6.heap.size w6 d3 := hd.trans ((bd1.trans ((bd2.trans (bd3.mono zd2)).mono zd1)).mono (by omega))
  have zdd := bdd.size
  have hnq9 : ∀ z, a9 = some z → z.block ≠ q := fun z hz => by obtain ⟨gg, e, e2, _⟩ := hz9 z hz; rw [e]; show gg ≠ q; omega
  have hnq26 : ∀ z, a26 = some z → z.block ≠ q := fun z hz => by obtain ⟨gg, e, e2, _⟩ := hz26 z hz; rw [e]; show gg ≠ q; omega
  have s9d : SlY yE18 d4 a9 (O ++ [mkE8]).length c9 (O ++ [mkE8]) := (s96.on bdd (Nat.le_refl _)).upd u4 (fun z hz _ => hnq9 z hz)
  have s26d : SlY yE18 d4 a26 (O ++ [mkE8]).length c26 (O ++ [mkE8]) := (s26.on (bd2.trans (bd3.mono zd2)) (Nat.le_refl _)).upd u4 (fun z hz _ => hnq26 z hz)
  have gi : GE8 d4 q h1 h2 k1 k2 a9 c9 a26 c26 (O ++ [mkE8]) := ⟨by rw [← hvv17, ← hvv28]; exact hB10, by omega, by omega, (u4.cell (p := ⟨h1, 0, none⟩) (by show h1 < d3.heap.size; omega) (by show ¬ h1 = q; omega)).trans ((bdd.cell (p := ⟨h1, 0, none⟩) (by show h1 < w6.heap.size; omega)).trans hc176), (u4.cell (p := ⟨h2, 0, none⟩) (by show h2 < d3.heap.size; omega) (by show ¬ h2 = q; omega)).trans hc28, s9d, s26d⟩
  have uw : Upd (fun k => k = q) w d4 := (uw6.trans18 (Upd.of_below bdd) (fun _ _ h => h)).trans18 u4 (fun _ _ h => h)
  obtain ⟨qa, oa, hqa⟩ : ∃ qa oa, a9 = some ⟨qa, oa, none⟩ := by
    obtain ⟨qa, oa, e, _⟩ := s9d.en8 (j := 0) (List.getElem?_eq_getElem (by rw [hlen]; omega))
    exact ⟨qa, oa, e⟩
  have s9t := s9d.take O.length (by rw [hlen]; omega)
  have hcp9 := s9d.cap
  go_upto_region 4 with fail
  refine wp_region_lit ?_
  refine q31.t (v9) (ex_move rfl (q31.e (j := 5) rfl)) fun _ q32 => ?_;clear q31
  refine q32.t (.slice a O.length c) (ex_move rfl (q32.e (j := 1) rfl)) fun _ q33 => ?_;clear q32
  refine q33.t (.int .i64 (O.length : Int)) (ex_lenG rfl rfl Try.underlying42 (q33.e (j := 33) rfl)) fun _ q34 => ?_;clear q33
  refine q34.t (.slice a9 O.length c9) (ex_slT18 rfl ((q34.e (j := 32) rfl).trans hv9) (q34.e (j := 34) rfl) (by rw [hqa]; exact slToE qa oa _ c9 O.length (by rw [hlen]; omega) (by rw [hlen] at hcp9; omega) _)) fun _ q35 => ?_;clear q34
  refine q35.t (.slice a9 O.length c9) (ex_assign rfl (q35.e (j := 35) rfl)) fun _ q36 => ?_;clear q35
  refine wpList_nil ?_
  go_wp2
  refine bodyPost_ret (results_tmp rfl _ _ _) rfl ⟨a9, c9, ?_, by simpa using s9t, ⟨_, _, _, _, _, _, _, _, gi⟩, uw⟩
  rw [getD_of (q36.a 4 rfl)]
  rfl
set_option maxRecDepth 100000 in
set_option maxHeartbeats 2000000 in
theorem intactE18 (q h1 h2 k1 k2 : Nat) (a1 : Option Addr) (c1 : Nat) (a2 : Option Addr) (c2 : Nat) (M : List En18) (w : World) (hG : GE8 w q h1 h2 k1 k2 a1 c1 a2 c2 M) (hbm : M.length ≤ 140737488355328) :
    Calls Try.prog 27 #[.pointer (some ⟨q, 0, none⟩)] w fun e w' => e = .returned (.bool true) ∧ Below w.heap.size w w' := by
  go_enter Try.func27, Try.ntmps27
  go_upto_region 0 with fail
  refine wp_region_lit ?_
  refine vl_gen (fun T => Rp T 133 [(0, gw true (.pointer (some ⟨q, 0, none⟩)))]) ((Rp.nil rfl).cons rfl) (fun Z0 q0 => ?_)
  refine q0.t (.bool false) (ex_assign rfl rfl) fun _ q1 => ?_;clear q0
  refine wpList_nil ?_
  go_upto_region 1 with fail
  refine wp_region_lit ?_
  refine q1.t (.int .i64 ((0 : Nat) : Int)) (ex_assign rfl rfl) fun _ q2 => ?_;clear q1
  have q3 := (((Rp.nil q2.z).cons (q2.a 0 rfl)).cons (q2.a 3 rfl))
  clear q2
  refine wpList_nil ?_
  go_upto_region 2 with fail
  refine v_loop 3 0 (fun j T wr => Rp T 133 [(3, gw true (.int .i64 (j : Int))), (0, gw true (.pointer (some ⟨q, 0, none⟩)))] ∧ Hid (Below w.heap.size w wr)) (fun j T w h => h.1.a 3 rfl) ⟨q3, (Below.refl w.heap.size w)⟩ ?_
  clear q3
  intro j1 T1 r1 hj1 hh1
  obtain ⟨q100, HJ1⟩ := hh1
  have b1 := HJ1.out
  clear HJ1
  have G1 := hG.later b1
  have B1 := G1.bb
  obtain rfl : j1 = 0 := by omega
  go_upto_region 2 with fail
  refine wp_region_lit ?_
  refine q100.t (.int .i64 ((0 : Nat) : Int)) (ex_move rfl (q100.e (j := 3) rfl)) fun _ q101 => ?_;clear q100
  refine q101.t (.pointer (some ⟨q, 0, none⟩)) (ex_move rfl (q101.e (j := 0) rfl)) fun _ q102 => ?_;clear q101
  refine q102.t (.pointer (some ⟨q, 0, none⟩)) (ex_nil rfl (q102.e (j := 9) rfl)) fun _ q103 => ?_;clear q102
  refine q103.t (.pointer (some ⟨q, 0, none⟩)) (ex_fa rfl (q103.e (j := 10) rfl) (faG q 0 (by decide) _)) fun _ q104 => ?_;clear q103
  refine q104.t (.slice none 0 0) (ex_ld rfl (q104.e (j := 11) rfl) (ldG0 ((B1.cell 0).trans rfl))) fun _ q105 => ?_;clear q104
  refine q105.t (.int .i64 ((0 : Nat) : Int)) (ex_lenG rfl rfl Try.underlying43 (q105.e (j := 12) rfl)) fun _ q106 => ?_;clear q105
  refine q106.t (.bool false) (ex_bin rfl (q106.e (j := 8) rfl) (q106.e (j := 13) rfl) (ltF _ _ (by omega) _)) fun _ q107 => ?_;clear q106
  refine wpList_nil ?_
  go_upto_region 6 with fail
  refine wp_cond_false (q107.e (j := 14) rfl) ?_
  go_upto_region 6 with fail
  refine wp_region_lit ?_
  refine q107.t (.int .i64 ((0 : Nat) : Int)) (ex_assign rfl rfl) fun _ q108 => ?_;clear q107
  have q109 := (((Rp.nil q108.z).cons (q108.a 0 rfl)).cons (q108.a 4 rfl))
  clear q108
  refine wpList_nil ?_
  go_upto_region 7 with fail
  refine v_loop 4 0 (fun j T wr => Rp T 133 [(4, gw true (.int .i64 (j : Int))), (0, gw true (.pointer (some ⟨q, 0, none⟩)))] ∧ Hid (Below w.heap.size w wr)) (fun j T w h => h.1.a 4 rfl) ⟨q109, b1⟩ ?_
  clear q109
  intro j2 T2 r2 hj2 hh2
  obtain ⟨q200, HJ2⟩ := hh2
  have b2 := HJ2.out
  clear HJ2
  have G2 := hG.later b2
  have B2 := G2.bb
  obtain rfl : j2 = 0 := by omega
  go_upto_region 7 with fail
  refine wp_region_lit ?_
  refine q200.t (.int .i64 ((0 : Nat) : Int)) (ex_move rfl (q200.e (j := 4) rfl)) fun _ q201 => ?_;clear q200
  refine q201.t (.pointer (some ⟨q, 0, none⟩)) (ex_move rfl (q201.e (j := 0) rfl)) fun _ q202 => ?_;clear q201
  refine q202.t (.pointer (some ⟨q, 0, none⟩)) (ex_nil rfl (q202.e (j := 34) rfl)) fun _ q203 => ?_;clear q202
  refine q203.t (.pointer (some ⟨q, 8, none⟩)) (ex_fa rfl (q203.e (j := 35) rfl) (faG q 8 (by decide) _)) fun _ q204 => ?_;clear q203
  refine q204.t (.slice none 0 0) (ex_ld rfl (q204.e (j := 36) rfl) (ldG8 ((B2.cell 8).trans rfl))) fun _ q205 => ?_;clear q204
  refine q205.t (.int .i64 ((0 : Nat) : Int)) (ex_lenG rfl rfl Try.underlying47 (q205.e (j := 37) rfl)) fun _ q206 => ?_;clear q205
  refine q206.t (.bool false) (ex_bin rfl (q206.e (j := 33) rfl) (q206.e (j := 38) rfl) (ltF _ _ (by omega) _)) fun _ q207 => ?_;clear q206
  refine wpList_nil ?_
  go_upto_region 11 with fail
  refine wp_cond_false (q207.e (j := 39) rfl) ?_
  go_upto_region 11 with fail
  refine wp_region_lit ?_
  refine q207.t (.int .i64 ((0 : Nat) : Int)) (ex_assign rfl rfl) fun _ q208 => ?_;clear q207
  have q209 := (((Rp.nil q208.z).cons (q208.a 0 rfl)).cons (q208.a 5 rfl))
  clear q208
  refine wpList_nil ?_
  go_upto_region 12 with fail
  refine v_loop 5 0 (fun j T wr => Rp T 133 [(5, gw true (.int .i64 (j : Int))), (0, gw true (.pointer (some ⟨q, 0, none⟩)))] ∧ Hid (Below w.heap.size w wr)) (fun j T w h => h.1.a 5 rfl) ⟨q209, b2⟩ ?_
  clear q209
  intro j3 T3 r3 hj3 hh3
  obtain ⟨q300, HJ3⟩ := hh3
  have b3 := HJ3.out
  clear HJ3
  have G3 := hG.later b3
  have B3 := G3.bb
  obtain rfl : j3 = 0 := by omega
  go_upto_region 12 with fail
  refine wp_region_lit ?_
  refine q300.t (.int .i64 ((0 : Nat) : Int)) (ex_move rfl (q300.e (j := 5) rfl)) fun _ q301 => ?_;clear q300
  refine q301.t (.pointer (some ⟨q, 0, none⟩)) (ex_move rfl (q301.e (j := 0) rfl)) fun _ q302 => ?_;clear q301
  refine q302.t (.pointer (some ⟨q, 0, none⟩)) (ex_nil rfl (q302.e (j := 59) rfl)) fun _ q303 => ?_;clear q302
  refine q303.t (.pointer (some ⟨q, 6, none⟩)) (ex_fa rfl (q303.e (j := 60) rfl) (faG q 6 (by decide) _)) fun _ q304 => ?_;clear q303
  refine q304.t (.slice none 0 0) (ex_ld rfl (q304.e (j := 61) rfl) (ldNN ((B3.cell 6).trans rfl))) fun _ q305 => ?_;clear q304
  refine q305.t (.int .i64 ((0 : Nat) : Int)) (ex_lenG rfl rfl Try.underlying46 (q305.e (j := 62) rfl)) fun _ q306 => ?_;clear q305
  refine q306.t (.bool false) (ex_bin rfl (q306.e (j := 58) rfl) (q306.e (j := 63) rfl) (ltF _ _ (by omega) _)) fun _ q307 => ?_;clear q306
  refine wpList_nil ?_
  go_upto_region 16 with fail
  refine wp_cond_false (q307.e (j := 64) rfl) ?_
  go_upto_region 16 with fail
  refine wp_region_lit ?_
  refine q307.t (.int .i64 ((0 : Nat) : Int)) (ex_assign rfl rfl) fun _ q308 => ?_;clear q307
  have q309 := (((Rp.nil q308.z).cons (q308.a 0 rfl)).cons (q308.a 6 rfl))
  clear q308
  refine wpList_nil ?_
  go_upto_region 17 with fail
  refine v_loop 6 0 (fun j T wr => Rp T 133 [(6, gw true (.int .i64 (j : Int))), (0, gw true (.pointer (some ⟨q, 0, none⟩)))] ∧ Hid (Below w.heap.size w wr)) (fun j T w h => h.1.a 6 rfl) ⟨q309, b3⟩ ?_
  clear q309
  intro j4 T4 r4 hj4 hh4
  obtain ⟨q400, HJ4⟩ := hh4
  have b4 := HJ4.out
  clear HJ4
  have G4 := hG.later b4
  have B4 := G4.bb
  obtain rfl : j4 = 0 := by omega
  go_upto_region 17 with fail
  refine wp_region_lit ?_
  refine q400.t (.int .i64 ((0 : Nat) : Int)) (ex_move rfl (q400.e (j := 6) rfl)) fun _ q401 => ?_;clear q400
  refine q401.t (.pointer (some ⟨q, 0, none⟩)) (ex_move rfl (q401.e (j := 0) rfl)) fun _ q402 => ?_;clear q401
  refine q402.t (.pointer (some ⟨q, 0, none⟩)) (ex_nil rfl (q402.e (j := 84) rfl)) fun _ q403 => ?_;clear q402
  refine q403.t (.pointer (some ⟨q, 2, none⟩)) (ex_fa rfl (q403.e (j := 85) rfl) (faG q 2 (by decide) _)) fun _ q404 => ?_;clear q403
  refine q404.t (.slice none 0 0) (ex_ld rfl (q404.e (j := 86) rfl) (ldG2 ((B4.cell 2).trans rfl))) fun _ q405 => ?_;clear q404
  refine q405.t (.int .i64 ((0 : Nat) : Int)) (ex_lenG rfl rfl Try.underlying44 (q405.e (j := 87) rfl)) fun _ q406 => ?_;clear q405
  refine q406.t (.bool false) (ex_bin rfl (q406.e (j := 83) rfl) (q406.e (j := 88) rfl) (ltF _ _ (by omega) _)) fun _ q407 => ?_;clear q406
  refine wpList_nil ?_
  go_upto_region 21 with fail
  refine wp_cond_false (q407.e (j := 89) rfl) ?_
  go_upto_region 21 with fail
  refine wp_region_lit ?_
  refine q407.t (.int .i64 ((0 : Nat) : Int)) (ex_assign rfl rfl) fun _ q408 => ?_;clear q407
  have q409 := (((Rp.nil q408.z).cons (q408.a 0 rfl)).cons (q408.a 7 rfl))
  clear q408
  refine wpList_nil ?_
  go_upto_region 22 with fail
  refine v_loop 7 1 (fun j T wr => Rp T 133 [(7, gw true (.int .i64 (j : Int))), (0, gw true (.pointer (some ⟨q, 0, none⟩)))] ∧ Hid (Below w.heap.size w wr)) (fun j T w h => h.1.a 7 rfl) ⟨q409, b4⟩ ?_
  clear q409
  intro j5 T5 r5 hj5 hh5
  obtain ⟨q500, HJ5⟩ := hh5
  have b5 := HJ5.out
  clear HJ5
  have G5 := hG.later b5
  have B5 := G5.bb
  by_cases hit : j5 = 0
  · subst hit
    go_upto_region 22 with fail
    refine wp_region_lit ?_
    refine q500.t (.int .i64 ((0 : Nat) : Int)) (ex_move rfl (q500.e (j := 7) rfl)) fun _ q501 => ?_;clear q500
    refine q501.t (.pointer (some ⟨q, 0, none⟩)) (ex_move rfl (q501.e (j := 0) rfl)) fun _ q502 => ?_;clear q501
    refine q502.t (.pointer (some ⟨q, 0, none⟩)) (ex_nil rfl (q502.e (j := 109) rfl)) fun _ q503 => ?_;clear q502
    refine q503.t (.pointer (some ⟨q, 4, none⟩)) (ex_fa rfl (q503.e (j := 110) rfl) (faG q 4 (by decide) _)) fun _ q504 => ?_;clear q503
    refine q504.t (.slice (some ⟨h1, 0, none⟩) 1 k1) (ex_ld rfl (q504.e (j := 111) rfl) (ldG4 ((B5.cell 4).trans rfl))) fun _ q505 => ?_;clear q504
    refine q505.t (.int .i64 ((1 : Nat) : Int)) (ex_lenG rfl rfl Try.underlying45 (q505.e (j := 112) rfl)) fun _ q506 => ?_;clear q505
    refine q506.t (.bool true) (ex_bin rfl (q506.e (j := 108) rfl) (q506.e (j := 113) rfl) (ltT _ _ (by omega) _)) fun _ q507 => ?_;clear q506
    refine wpList_nil ?_
    go_upto_region 24 with fail
    refine wp_cond_true (q507.e (j := 114) rfl) ?_
    go_upto_region 24 with fail
    refine vq_start (C := fun v => Below r5.heap.size r5 v) (by kernel_rfl) (by kernel_rfl) (Below.refl _ _).drew ?_
    refine q507.q (.pointer (some ⟨q, 0, none⟩)) (fun v hv => ex_move rfl (q507.e (j := 0) rfl)) fun _ q508 => ?_;clear q507
    refine q508.q (.pointer (some ⟨q, 0, none⟩)) (fun v hv => ex_nil rfl (q508.e (j := 117) rfl)) fun _ q509 => ?_;clear q508
    refine q509.q (.pointer (some ⟨q, 4, none⟩)) (fun v hv => ex_fa rfl (q509.e (j := 118) rfl) (faG q 4 (by decide) _)) fun _ q510 => ?_;clear q509
    refine q510.q (.slice (some ⟨h1, 0, none⟩) 1 k1) (fun v hv => ex_ld rfl (q510.e (j := 119) rfl) (ldG4 (((B5.later hv).cell 4).trans rfl))) fun _ q511 => ?_;clear q510
    refine q511.q (.int .i64 ((0 : Nat) : Int)) (fun v hv => ex_move rfl (q511.e (j := 7) rfl)) fun _ q512 => ?_;clear q511
    refine q512.q (.pointer (some ⟨h1, 0 + 0, none⟩)) (fun v hv => ex_ix rfl (q512.e (j := 120) rfl) (q512.e (j := 121) rfl) (ixNE h1 0 1 k1 0 (by decide) _)) fun _ q513 => ?_;clear q512
    refine q513.q (.slice a1 M.length c1) (fun v hv => ex_ld rfl (q513.e (j := 122) rfl) (ldE1 (G5.later hv).e1)) fun _ q514 => ?_;clear q513
    refine q514.q (.pointer (some ⟨q, 0, none⟩)) (fun v hv => ex_move rfl (q514.e (j := 0) rfl)) fun _ q515 => ?_;clear q514
    refine q515.q (.pointer (some ⟨q, 0, none⟩)) (fun v hv => ex_nil rfl (q515.e (j := 124) rfl)) fun _ q516 => ?_;clear q515
    refine q516.q (.pointer (some ⟨q, 5, none⟩)) (fun v hv => ex_fa rfl (q516.e (j := 125) rfl) (faG q 5 (by decide) _)) fun _ q517 => ?_;clear q516
    refine q517.q (.slice (some ⟨h2, 0, none⟩) 1 k2) (fun v hv => ex_ld rfl (q517.e (j := 126) rfl) (ldG4 (((B5.later hv).cell 5).trans rfl))) fun _ q518 => ?_;clear q517
    refine q518.q (.int .i64 ((0 : Nat) : Int)) (fun v hv => ex_move rfl (q518.e (j := 7) rfl)) fun _ q519 => ?_;clear q518
    refine q519.q (.pointer (some ⟨h2, 0 + 0, none⟩)) (fun v hv => ex_ix rfl (q519.e (j := 127) rfl) (q519.e (j := 128) rfl) (ixNE h2 0 1 k2 0 (by decide) _)) fun _ q520 => ?_;clear q519
    refine q520.q (.slice a2 M.length c2) (fun v hv => ex_ld rfl (q520.e (j := 129) rfl) (ldE1 (G5.later hv).e2)) fun _ q521 => ?_;clear q520
    refine vq_call18 (true) (.bool true) (want_none rfl) (fun hc v hv => ex_call rfl (by simp only [List.map_toArray, List.map_cons, List.map_nil, (q521.e (j := 123) rfl), (q521.e (j := 130) rfl), evc] <;> rfl) rfl) (fun hc v hv => bel18 hv (sameEntries18 M a1 a2 c1 c2 v (G5.later hv).s1 (G5.later hv).s2 hbm) hv.size) rfl q521.z (by decide) (q521.k fun _ q522 => ?_);clear q521
    refine q522.q (.bool false) (fun v hv => ex_not rfl (q522.e (j := 131) rfl)) fun _ q523 => ?_;clear q522
    refine vq_nil (fun x1 hx1 => ?_)
    have q524 := ((((Rp.nil q523.z).cons (q523.a 0 rfl)).cons (q523.a 7 rfl)).cons (q523.a 132 rfl))
    clear q523
    go_upto_region 23 with fail
    refine wp_cond_false (q524.e (j := 132) rfl) ?_
    go_upto_region 23 with fail
    refine wp_region_lit ?_
    refine q524.t (.int .i64 ((0 : Nat) : Int)) (ex_move rfl (q524.e (j := 7) rfl)) fun _ q525 => ?_;clear q524
    refine q525.t (.int .i64 ((0 + 1 : Nat) : Int)) (ex_bin rfl (q525.e (j := 115) rfl) rfl (add1C _ _ 0 (by omega) _)) fun _ q526 => ?_;clear q525
    refine q526.t (.int .i64 ((0 + 1 : Nat) : Int)) (ex_assign rfl (q526.e (j := 116) rfl)) fun _ q527 => ?_;clear q526
    have q528 := (((Rp.nil q527.z).cons (q527.a 0 rfl)).cons (q527.a 7 rfl))
    clear q527
    refine wpList_nil ?_
    exact ⟨_, rfl, by omega, q528, b5.trans (hx1.mono b5.size)⟩
  · obtain rfl : j5 = 1 := by omega
    go_upto_region 22 with fail
    refine wp_region_lit ?_
    refine q500.t (.int .i64 ((1 : Nat) : Int)) (ex_move rfl (q500.e (j := 7) rfl)) fun _ q501 => ?_;clear q500
    refine q501.t (.pointer (some ⟨q, 0, none⟩)) (ex_move rfl (q501.e (j := 0) rfl)) fun _ q502 => ?_;clear q501
    refine q502.t (.pointer (some ⟨q, 0, none⟩)) (ex_nil rfl (q502.e (j := 109) rfl)) fun _ q503 => ?_;clear q502
    refine q503.t (.pointer (some ⟨q, 4, none⟩)) (ex_fa rfl (q503.e (j := 110) rfl) (faG q 4 (by decide) _)) fun _ q504 => ?_;clear q503
    refine q504.t (.slice (some ⟨h1, 0, none⟩) 1 k1) (ex_ld rfl (q504.e (j := 111) rfl) (ldG4 ((B5.cell 4).trans rfl))) fun _ q505 => ?_;clear q504
    refine q505.t (.int .i64 ((1 : Nat) : Int)) (ex_lenG rfl rfl Try.underlying45 (q505.e (j := 112) rfl)) fun _ q506 => ?_;clear q505
    refine q506.t (.bool false) (ex_bin rfl (q506.e (j := 108) rfl) (q506.e (j := 113) rfl) (ltF _ _ (by omega) _)) fun _ q507 => ?_;clear q506
    refine wpList_nil ?_
    go_upto_region 26 with fail
    refine wp_cond_false (q507.e (j := 114) rfl) ?_
    go_upto_region 26 with fail
    refine wp_region_lit ?_
    refine q507.t (.bool true) (ex_assign rfl rfl) fun _ q508 => ?_;clear q507
    refine wpList_nil ?_
    go_wp2
    refine bodyPost_ret (results_tmp rfl _ _ _) rfl ⟨?_, b5⟩
    rw [getD_of (q508.a 2 rfl)]
    rfl

end Go.Proofs.Ytjkleldoeojbbaa

namespace Go.Proofs.Ytjkleldoeojbbaa
open Go.RowKit Go.Maps
open Classical
set_option linter.unusedVariables false
set_option linter.unusedSimpArgs false

/-- The place of a call that has this entry. -/
def plE (l : List Kl) (e : En18) : Option Nat := l.findIdx? fun x => eEn x.en e
/-- The places of a row of entries. -/
def orE (l : List Kl) (S : List En18) : List Int := S.filterMap fun e => (plE l e).map fun (p : Nat) => (p : Int)
def odR (l : List Kl) (S : List En18) : List Int × Int := if kchk l ≠ 0 then ([], 180) else if okO l.length [] (orE l S) && !lckK l (dO l.length (orE l S)) then (orE l S, 0) else ([], 182)
theorem plE_lt {l : List Kl} {e : En18} {p : Nat} (h : plE l e = some p) : p < l.length := by
  unfold plE at h
  exact (List.findIdx?_eq_some_iff_getElem.1 h).1
theorem plE_snoc (l : List Kl) (x : Kl) (e : En18) : plE (l ++ [x]) e = (plE l e).or (if eEn x.en e then some l.length else none) := by
  unfold plE
  rw [List.findIdx?_append]
  cases h : eEn x.en e <;> simp [List.findIdx?_cons, h]
def unq (l : List Kl) : Prop := l.Pairwise fun x y => ¬ (x.c = y.c ∧ x.n = y.n)
theorem unq_of {l : List Kl} (h : kchk l = 0) : unq l := (kcA_ok [] l h).2.1
theorem plE_new {l : List Kl} (hu : unq l) {j : Nat} {x : Kl} (hx : l[j]? = some x) : plE (l.take j) x.en = none := by
  unfold plE
  rw [List.findIdx?_eq_none_iff]
  intro y hy
  obtain ⟨i, hi, rfl⟩ := List.mem_iff_getElem.1 hy
  obtain ⟨hj, rfl⟩ := List.getElem?_eq_some_iff.1 hx
  have hi2 : i < j := by rw [List.length_take] at hi; omega
  have := List.pairwise_iff_getElem.1 hu i j (by omega) hj hi2
  rw [List.getElem_take]
  refine eEn_f ?_
  intro e
  exact this ⟨congrArg En18.c e, congrArg En18.n e⟩
theorem plE_at {l : List Kl} (hu : unq l) {j : Nat} {x : Kl} (hx : l[j]? = some x) (e : En18) : plE (l.take (j + 1)) e = if eEn x.en e then some j else plE (l.take j) e := by
  obtain ⟨hj, rfl⟩ := List.getElem?_eq_some_iff.1 hx
  rw [List.take_succ_eq_append_getElem hj, plE_snoc]
  split
  · rename_i h
    rw [← eEn_e h, plE_new hu (List.getElem?_eq_getElem hj)]
    simp
    omega
  · simp
theorem orE_at {l : List Kl} {S : List En18} {j : Nat} {e : En18} (h : S[j]? = some e) : orE l (S.take (j + 1)) = orE l (S.take j) ++ ((plE l e).map fun (p : Nat) => (p : Int)).toList := by
  obtain ⟨hj, rfl⟩ := List.getElem?_eq_some_iff.1 h
  unfold orE
  rw [List.take_succ_eq_append_getElem hj, List.filterMap_append]
  congr 1
  all_goals (cases plE l S[j] <;> simp)
theorem orE_len (l : List Kl) (S : List En18) : (orE l S).length ≤ S.length := List.length_filterMap_le _ _
def mpE (l : List Kl) (e : En18) : Option Value := (plE l e).map fun (p : Nat) => .int .i64 (p : Int)
theorem ex_mmN18 {o : Oper} {ρ : Operand → Value} {s : TypeId} {x : Operand} {X V : Value} {w w' : World} (ho : o.op = .makeMap s (some x)) (hx : ρ x = X) (hr : (Instr.makeMap s (some X)).run Try.prog w = .ok V w') : (execOp ρ o).run Try.prog w = .ok (.value V) w' := by
  unfold execOp
  simp only [ho]
  simp [hx, hr]
theorem MapG.keep8 {κ : Type} {Z : KeyT κ} {w w' : World} {b n B : Nat} {f : κ → Option Value} (h : MapG Z w b n f) (hb : Below B w w') (hB : b < B) : MapG Z w' b n f := h.block (hb.block b hB)
set_option maxRecDepth 100000 in
set_option maxHeartbeats 2000000 in
theorem order18 (l : List Kl) (a : Option Addr) (c : Nat) (S : List En18) (a2 : Option Addr) (c2 : Nat) (w : World) (h : SlY yK w a l.length c l) (h2 : SlY yE18 w a2 S.length c2 S) (hfx : ∀ x ∈ l, x.fits) (hfs : ∀ x ∈ S, x.fits) (hbl : l.length ≤ 140737488355328) (hb2 : S.length * 48 ≤ 140737488351232) :
    Calls Try.prog 23 #[.slice a l.length c, .slice a2 S.length c2] w fun e w' => ∃ v, e = .returned (.tuple #[v, .int .i64 (odR l S).2]) ∧ OwnY yN w.heap.size w' v (odR l S).1 ∧ Below w.heap.size w w' := by
  go_enter Try.func23, Try.ntmps23
  go_upto_region 0 with fail
  refine wp_region_lit ?_
  refine vl_gen (fun T => Rp T 69 [(1, gw true (.slice a2 S.length c2)), (0, gw true (.slice a l.length c))]) (((Rp.nil rfl).cons rfl).cons rfl) (fun Z0 q0 => ?_)
  refine q0.t (.slice none 0 0) (ex_assign rfl rfl) fun _ q1 => ?_;clear q0
  refine q1.t (.int .i64 0) (ex_assign rfl rfl) fun _ q2 => ?_;clear q1
  refine wpList_nil ?_
  go_upto_region 1 with fail
  refine wp_region_lit ?_
  refine q2.t (.slice a l.length c) (ex_move rfl (q2.e (j := 0) rfl)) fun _ q3 => ?_;clear q2
  refine vcallP (want_none rfl) (ex_call rfl (by simp only [List.map_toArray, List.map_cons, List.map_nil, (q3.e (j := 17) rfl), evc] <;> rfl) rfl) (check18_any l a c w h hfx) rfl q3.z (by decide) ?_
  rintro e w1 ⟨rfl, b1⟩
  refine ⟨_, rfl, q3.k fun _ q4 => ?_⟩;clear q3
  have z1 := b1.size
  refine q4.t (.int .i64 (kchk l : Int)) (ex_assign rfl (q4.e (j := 18) rfl)) fun _ q5 => ?_;clear q4
  refine wpList_nil ?_
  go_upto_region 2 with fail
  refine wp_region_lit ?_
  refine q5.t (.int .i64 (kchk l : Int)) (ex_move rfl (q5.e (j := 6) rfl)) fun _ q6 => ?_;clear q5
  refine q6.t (.bool (!decide (kchk l = 0))) (ex_bin rfl (q6.e (j := 19) rfl) rfl (neqE18 _ _ _ _ _)) fun _ q7 => ?_;clear q6
  have q8 := (((((Rp.nil q7.z).cons (q7.a 0 rfl)).cons (q7.a 1 rfl)).cons (q7.a 6 rfl)).cons (q7.a 20 rfl))
  clear q7
  refine wpList_nil ?_
  by_cases hk : kchk l = 0
  · have hu := unq_of hk
    have q8x := q8.a 20 rfl
    rw [hk] at q8x
    go_upto_region 4 with fail
    refine wp_cond_false (ev q8x rfl) ?_
    clear q8x
    go_upto_region 4 with fail
    refine wp_region_lit ?_
    refine q8.t (.slice a l.length c) (ex_move rfl (q8.e (j := 0) rfl)) fun _ q9 => ?_;clear q8
    refine q9.t (.int .i64 (l.length : Int)) (ex_len18 rfl rfl (q9.e (j := 22) rfl)) fun _ q10 => ?_;clear q9
    obtain ⟨w2, hw2⟩ : ∃ y, y = w1.alloc (.map #[] 0) := ⟨_, rfl⟩
    refine vw (.map (some w1.heap.size)) w2 (want_none rfl) (ex_mmN18 rfl (q10.e (j := 23) rfl) (by rw [hw2]; exact run_makeMapN Try.underlying118 _ _)) rfl q10.z (by decide) (q10.k fun _ q11 => ?_);clear q10
    have M2 : MapG zEn w2 w1.heap.size 0 (fun _ => none) := by rw [hw2]; exact MapG.made zEn w1
    have b2 : Below w1.heap.size w1 w2 := by rw [hw2]; exact (Below.refl _ _).alloc (Nat.le_refl _) _
    have e2 : w2.heap.size = w1.heap.size + 1 := by rw [hw2]; simp
    clear hw2
    have b2w : Below w.heap.size w w2 := b1.trans (b2.mono z1)
    refine q11.t (.map (some w1.heap.size)) (ex_assign rfl (q11.e (j := 24) rfl)) fun _ q12 => ?_;clear q11
    refine wpList_nil ?_
    go_upto_region 5 with fail
    refine wp_region_lit ?_
    refine q12.t (.slice a l.length c) (ex_move rfl (q12.e (j := 0) rfl)) fun _ q13 => ?_;clear q12
    refine q13.t (.int .i64 (l.length : Int)) (ex_len18 rfl rfl (q13.e (j := 25) rfl)) fun _ q14 => ?_;clear q13
    refine q14.t (.int .i64 ((0 : Nat) : Int)) (ex_move rfl rfl) fun _ q15 => ?_;clear q14
    have q16 := (((((((Rp.nil q15.z).cons (q15.a 0 rfl)).cons (q15.a 1 rfl)).cons (q15.a 7 rfl)).cons (q15.a 25 rfl)).cons (q15.a 26 rfl)).cons (q15.a 27 rfl))
    clear q15
    refine wpList_nil ?_
    go_upto_region 6 with fail
    refine v_loop 27 l.length (fun j T wr => Rp T 69 [(27, gw true (.int .i64 (j : Int))), (26, gw true (.int .i64 (l.length : Int))), (25, gw true (.slice a l.length c)), (7, gw true (.map (some w1.heap.size))), (1, gw true (.slice a2 S.length c2)), (0, gw true (.slice a l.length c))] ∧ Hid (Below w.heap.size w wr ∧ w1.heap.size < wr.heap.size ∧ MapG zEn wr w1.heap.size j (mpE (l.take j)))) (fun j T w h => h.1.a 27 rfl) ⟨q16, b2w, by omega, M2.ext (fun k _ => by simp [mpE, plE])⟩ ?_
    clear q16 M2
    intro j T wr hj hh
    obtain ⟨q100, HJ⟩ := hh
    obtain ⟨br, hmr, hM⟩ := HJ.out
    clear HJ
    have zr := br.size
    by_cases hit : j < l.length
    · obtain ⟨x, hx⟩ : ∃ x, l[j]? = some x := ⟨_, List.getElem?_eq_getElem hit⟩
      have fx := hfx x (List.mem_of_getElem? hx)
      obtain ⟨qa, oa, hqa, hqal, hlie⟩ := (h.on br (Nat.le_refl _)).place (by rintro rfl; simp at hit)
      go_upto_region 6 with fail
      refine wp_region_lit ?_
      refine q100.t (.bool true) (ex_bin rfl (q100.e (j := 27) rfl) (q100.e (j := 26) rfl) (ltT _ _ hit _)) fun _ q101 => ?_;clear q100
      refine wpList_nil ?_
      go_upto_region 7 with fail
      refine wp_cond_true (q101.e (j := 28) rfl) ?_
      go_upto_region 7 with fail
      refine wp_region_lit ?_
      refine q101.t (.int .i64 (j : Int)) (ex_move rfl (q101.e (j := 27) rfl)) fun _ q102 => ?_;clear q101
      refine q102.t (.pointer (some ⟨qa, oa + j * 10, none⟩)) (ex_ix rfl (q102.e (j := 25) rfl) (q102.e (j := 27) rfl) (by rw [hqa]; exact ixK qa oa l.length c j hit _)) fun _ q103 => ?_;clear q102
      refine q103.t (x.val) (ex_ld rfl (q103.e (j := 30) rfl) (ldEl hlie hx)) fun _ q104 => ?_;clear q103
      obtain ⟨r1, hr1⟩ : ∃ y, y = wr.alloc (.cells zK.cs.toArray 66) := ⟨_, rfl⟩
      refine vw (.pointer (some ⟨wr.heap.size, 0, none⟩)) r1 (want_none rfl) (ex_al rfl (by rw [hr1]; exact alK _)) rfl q104.z (by decide) (q104.k fun _ q105 => ?_);clear q104
      have Bz : BB r1 wr.heap.size 66 zK.cs := by rw [hr1]; exact BB.new _ _ _
      have hr1b : Below wr.heap.size wr r1 := by rw [hr1]; exact (Below.refl _ _).alloc (Nat.le_refl _) _
      clear hr1
      refine q105.t (.int .i64 (j : Int)) (ex_assign rfl (q105.e (j := 29) rfl)) fun _ q106 => ?_;clear q105
      obtain ⟨r2, hr2⟩ : ∃ y, y = r1.setCells wr.heap.size 0 x.cs := ⟨_, rfl⟩
      refine vs r2 (want_none rfl) (ex_st rfl (q106.e (j := 9) rfl) (q106.e (j := 31) rfl) (by rw [hr2]; exact Bz.stK)) rfl ?_
      have B13 : BB r2 wr.heap.size 66 x.cs := by rw [hr2]; exact Bz.whole _ rfl
      have hr2b : Below wr.heap.size wr r2 := by rw [hr2]; exact hr1b.trans (bel_ge (upd18 _ _ _ _) hr1b.size (Nat.le_refl _))
      clear hr2 Bz hr1b
      have y2 := hr2b.size
      refine wpList_nil ?_
      go_upto_region 8 with fail
      refine wp_region_lit ?_
      refine q106.t (.map (some w1.heap.size)) (ex_move rfl (q106.e (j := 7) rfl)) fun _ q107 => ?_;clear q106
      refine q107.t (x.val) (ex_ld rfl (q107.e (j := 9) rfl) B13.ldK) fun _ q108 => ?_;clear q107
      refine vcallP (want_none rfl) (ex_call rfl (by simp only [List.map_toArray, List.map_cons, List.map_nil, (q108.e (j := 33) rfl), evc] <;> rfl) rfl) (entryOf_any x r2) rfl q108.z (by decide) ?_
      rintro e r3 ⟨rfl, hr3b⟩
      refine ⟨_, rfl, q108.k fun _ q109 => ?_⟩;clear q108
      have y3 := hr3b.size
      have hr3w : Below wr.heap.size wr r3 := hr2b.trans (hr3b.mono y2)
      have M3 := hM.later hr3w
      obtain ⟨r4, g, hmu, g0, g1, M4, hg4⟩ := M3.store kEn (by have := h.max; have := h.cap; unfold maxLen at *; omega) Try.underlying118 x.en fx.en (.int .i64 (j : Int))
      refine q109.t (.int .i64 (j : Int)) (ex_move rfl (q109.e (j := 8) rfl)) fun _ q110 => ?_;clear q109
      refine vs r4 (want_none rfl) (ex_mu18 rfl (q110.e (j := 32) rfl) (q110.e (j := 34) rfl) (q110.e (j := 35) rfl) hmu) rfl ?_
      have b4 : Below w.heap.size w r4 := (br.trans (hr3w.mono zr)).grown hg4 (by omega) (fun k hk => by cases hk; exact z1)
      have M5 : MapG zEn r4 w1.heap.size (j + 1) (mpE (l.take (j + 1))) := M4.ext (fun k _ => by
          unfold mpE
          rw [plE_at hu hx]
          by_cases e : x.en = k
          · subst e; rw [if_pos (eEn_t rfl), g0]; rfl
          · rw [if_neg (eEn_n e), g1 k (fun h => e h.symm)]; rfl)
      have zg := hg4.size
      refine wpList_nil ?_
      go_upto_region 9 with fail
      refine wp_region_lit ?_
      refine q110.t (.int .i64 ((j + 1 : Nat) : Int)) (ex_bin rfl (q110.e (j := 27) rfl) rfl (add1C _ _ j (by omega) _)) fun _ q111 => ?_;clear q110
      refine q111.t (.int .i64 ((j + 1 : Nat) : Int)) (ex_move rfl (q111.e (j := 36) rfl)) fun _ q112 => ?_;clear q111
      have q113 := (((((((Rp.nil q112.z).cons (q112.a 0 rfl)).cons (q112.a 1 rfl)).cons (q112.a 7 rfl)).cons (q112.a 25 rfl)).cons (q112.a 26 rfl)).cons (q112.a 27 rfl))
      clear q112
      refine wpList_nil ?_
      exact ⟨_, rfl, hit, q113, b4, by omega, M5⟩
    · obtain rfl : j = l.length := by omega
      rw [List.take_length] at hM
      go_upto_region 6 with fail
      refine wp_region_lit ?_
      refine q100.t (.bool false) (ex_bin rfl (q100.e (j := 27) rfl) (q100.e (j := 26) rfl) (ltF _ _ hit _)) fun _ q101 => ?_;clear q100
      refine wpList_nil ?_
      go_upto_region 10 with fail
      refine wp_cond_false (q101.e (j := 28) rfl) ?_
      go_upto_region 10 with fail
      refine wp_region_lit ?_
      refine q101.t (.slice none 0 0) (ex_assign rfl rfl) fun _ q102 => ?_;clear q101
      refine wpList_nil ?_
      go_upto_region 11 with fail
      refine wp_region_lit ?_
      refine q102.t (.slice a2 S.length c2) (ex_move rfl (q102.e (j := 1) rfl)) fun _ q103 => ?_;clear q102
      refine q103.t (.int .i64 (S.length : Int)) (ex_lenG rfl rfl Try.underlying42 (q103.e (j := 37) rfl)) fun _ q104 => ?_;clear q103
      refine q104.t (.int .i64 ((0 : Nat) : Int)) (ex_move rfl rfl) fun _ q105 => ?_;clear q104
      have q106 := (((((((Rp.nil q105.z).cons (q105.a 0 rfl)).cons (q105.a 7 rfl)).cons (q105.a 10 rfl)).cons (q105.a 37 rfl)).cons (q105.a 38 rfl)).cons (q105.a 39 rfl))
      clear q105
      refine wpList_nil ?_
      go_upto_region 12 with fail
      refine v_loop 39 S.length (fun i T wr => ∃ v, Rp T 69 [(39, gw true (.int .i64 (i : Int))), (38, gw true (.int .i64 (S.length : Int))), (37, gw true (.slice a2 S.length c2)), (10, gw true v), (7, gw true (.map (some w1.heap.size))), (0, gw true (.slice a l.length c))] ∧ Hid (Below w.heap.size w wr ∧ w1.heap.size < wr.heap.size ∧ MapG zEn wr w1.heap.size l.length (mpE l) ∧ OwnY yN (w1.heap.size + 1) wr v (orE l (S.take i)))) (fun i T w h => by obtain ⟨v, h, _⟩ := h; exact h.a 39 rfl) ⟨_, q106, br, hmr, hM, OwnY.nil _ _ _⟩ ?_
      clear q106 hM br hmr zr
      intro i T2 wi hi hh2
      obtain ⟨v, q200, HJ⟩ := hh2
      obtain ⟨bi, hmi, hM, hO⟩ := HJ.out
      clear HJ
      have zi := bi.size
      by_cases his : i < S.length
      · obtain ⟨y, hy⟩ : ∃ y, S[i]? = some y := ⟨_, List.getElem?_eq_getElem his⟩
        have fy := hfs y (List.mem_of_getElem? hy)
        obtain ⟨qb, ob, hqb, hEy⟩ := (h2.on bi (Nat.le_refl _)).en8 hy
        have hOa := orE_at (l := l) hy
        go_upto_region 12 with fail
        refine wp_region_lit ?_
        refine q200.t (.bool true) (ex_bin rfl (q200.e (j := 39) rfl) (q200.e (j := 38) rfl) (ltT _ _ his _)) fun _ q201 => ?_;clear q200
        refine wpList_nil ?_
        go_upto_region 13 with fail
        refine wp_cond_true (q201.e (j := 40) rfl) ?_
        go_upto_region 13 with fail
        refine wp_region_lit ?_
        refine q201.t (.pointer (some ⟨qb, ob + i * 5, none⟩)) (ex_ix rfl (q201.e (j := 37) rfl) (q201.e (j := 39) rfl) (by rw [hqb]; exact ixE18 qb ob S.length c2 i his _)) fun _ q202 => ?_;clear q201
        refine q202.t (y.val) (ex_ld rfl (q202.e (j := 41) rfl) hEy.ld) fun _ q203 => ?_;clear q202
        obtain ⟨r1, hr1⟩ : ∃ z, z = wi.alloc (.cells zE18.cs.toArray 92) := ⟨_, rfl⟩
        refine vw (.pointer (some ⟨wi.heap.size, 0, none⟩)) r1 (want_none rfl) (ex_al rfl (by rw [hr1]; exact alE18 _)) rfl q203.z (by decide) (q203.k fun _ q204 => ?_);clear q203
        have Bz : BB r1 wi.heap.size 92 zE18.cs := by rw [hr1]; exact BB.new _ _ _
        have hr1b : Below wi.heap.size wi r1 := by rw [hr1]; exact (Below.refl _ _).alloc (Nat.le_refl _) _
        clear hr1
        obtain ⟨r2, hr2⟩ : ∃ z, z = r1.setCells wi.heap.size 0 y.cs := ⟨_, rfl⟩
        refine vs r2 (want_none rfl) (ex_st rfl (q204.e (j := 12) rfl) (q204.e (j := 42) rfl) (by rw [hr2]; exact Bz.stE)) rfl ?_
        have B13 : BB r2 wi.heap.size 92 y.cs := by rw [hr2]; exact Bz.whole _ rfl
        have hr2b : Below wi.heap.size wi r2 := by rw [hr2]; exact hr1b.trans (bel_ge (upd18 _ _ _ _) hr1b.size (Nat.le_refl _))
        clear hr2 Bz hr1b
        have y2 := hr2b.size
        have M2 := hM.later hr2b
        have O2 := hO.grow hr2b
        have bw2 : Below w.heap.size w r2 := bi.trans (hr2b.mono zi)
        refine wpList_nil ?_
        go_upto_region 14 with fail
        refine wp_region_lit ?_
        refine q204.t (.map (some w1.heap.size)) (ex_move rfl (q204.e (j := 7) rfl)) fun _ q205 => ?_;clear q204
        refine q205.t (y.val) (ex_ld rfl (q205.e (j := 12) rfl) B13.ldE) fun _ q206 => ?_;clear q205
        have hlook : (Instr.lookup 118 (.map (some w1.heap.size)) y.val true).run Try.prog r2 = .ok (.tuple #[(mpE l y).getD (.int .i64 0), .bool (mpE l y).isSome]) r2 := M2.look kEn true Try.underlying118 (z := .int .i64 0) (by kernel_rfl) fy
        refine q206.t (.tuple #[(mpE l y).getD (.int .i64 0), .bool (mpE l y).isSome]) (ex_look18 rfl (q206.e (j := 44) rfl) (q206.e (j := 45) rfl) hlook) fun _ q207 => ?_;clear q206
        refine q207.t (.tuple #[(mpE l y).getD (.int .i64 0), .bool (mpE l y).isSome]) (ex_move rfl (q207.e (j := 46) rfl)) fun _ q208 => ?_;clear q207
        refine q208.t ((mpE l y).getD (.int .i64 0)) (ex_ext18 rfl (q208.e (j := 43) rfl) rfl) fun _ q209 => ?_;clear q208
        refine q209.t (.bool (mpE l y).isSome) (ex_ext18 rfl (q209.e (j := 43) rfl) rfl) fun _ q210 => ?_;clear q209
        refine q210.t ((mpE l y).getD (.int .i64 0)) (ex_assign rfl (q210.e (j := 47) rfl)) fun _ q211 => ?_;clear q210
        refine q211.t (.bool (mpE l y).isSome) (ex_assign rfl (q211.e (j := 48) rfl)) fun _ q212 => ?_;clear q211
        refine wpList_nil ?_
        go_upto_region 15 with fail
        refine wp_region_lit ?_
        refine q212.t (.bool (mpE l y).isSome) (ex_move rfl (q212.e (j := 14) rfl)) fun _ q213 => ?_;clear q212
        have q214 := (((((((((Rp.nil q213.z).cons (q213.a 0 rfl)).cons (q213.a 7 rfl)).cons (q213.a 10 rfl)).cons (q213.a 13 rfl)).cons (q213.a 37 rfl)).cons (q213.a 38 rfl)).cons (q213.a 39 rfl)).cons (q213.a 49 rfl))
        clear q213
        refine wpList_nil ?_
        cases hp : plE l y with
        | none =>
          have hm0 : mpE l y = none := by unfold mpE; rw [hp]; rfl
          have q214x := q214.a 49 rfl
          rw [hm0] at q214x
          go_upto_region 17 with fail
          refine wp_cond_false (ev q214x rfl) ?_
          clear q214x
          go_upto_region 17 with fail
          refine wp_region_lit ?_
          refine q214.t (.int .i64 ((i + 1 : Nat) : Int)) (ex_bin rfl (q214.e (j := 39) rfl) rfl (add1C _ _ i (by omega) _)) fun _ q215 => ?_;clear q214
          refine q215.t (.int .i64 ((i + 1 : Nat) : Int)) (ex_move rfl (q215.e (j := 54) rfl)) fun _ q216 => ?_;clear q215
          have q217 := (((((((Rp.nil q216.z).cons (q216.a 0 rfl)).cons (q216.a 7 rfl)).cons (q216.a 10 rfl)).cons (q216.a 37 rfl)).cons (q216.a 38 rfl)).cons (q216.a 39 rfl))
          clear q216
          refine wpList_nil ?_
          exact ⟨_, rfl, his, _, q217, bw2, by omega, M2, by rw [hOa, hp]; simpa using O2⟩
        | some pp =>
          have hm0 : mpE l y = some (.int .i64 (pp : Int)) := by unfold mpE; rw [hp]; rfl
          have q214x := q214.a 49 rfl
          rw [hm0] at q214x
          have q214y := q214.a 13 rfl
          rw [hm0] at q214y
          go_upto_region 16 with fail
          refine wp_cond_true (ev q214x rfl) ?_
          clear q214x
          go_upto_region 16 with fail
          refine wp_region_lit ?_
          replace q214 := (Rp.nil q214.z).cons (q214.a 0 rfl) |>.cons (q214.a 7 rfl) |>.cons (q214.a 10 rfl) |>.cons (j := 13) (v := gw true (.int .i64 (pp : Int))) q214y |>.cons (q214.a 37 rfl) |>.cons (q214.a 38 rfl) |>.cons (q214.a 39 rfl)
          clear q214y
          refine q214.t (v) (ex_move rfl (q214.e (j := 10) rfl)) fun _ q215 => ?_;clear q214
          refine q215.t (.int .i64 (pp : Int)) (ex_move rfl (q215.e (j := 13) rfl)) fun _ q216 => ?_;clear q215
          obtain ⟨r3, hr3⟩ : ∃ z, z = r2.alloc (.cells #[.int .i64 (pp : Int)] 3) := ⟨_, rfl⟩
          refine vw (.slice (some ⟨r2.heap.size, 0, none⟩) 1 1) r3 (want_none rfl) (ex_bs18 rfl (q216.e (j := 51) rfl) (by rw [hr3]; exact bsN _ _)) rfl q216.z (by decide) (q216.k fun _ q217 => ?_);clear q216
          have s3 : SlY yN r3 (some ⟨r2.heap.size, 0, none⟩) 1 1 [(pp : Int)] := by rw [hr3]; exact sl_box (Y := yN) r2 (pp : Int) 3
          have b3 : Below r2.heap.size r2 r3 := by rw [hr3]; exact (Below.refl _ _).alloc (Nat.le_refl _) _
          clear hr3
          have y3 := b3.size
          have hol := orE_len l (S.take i)
          rw [List.length_take] at hol
          obtain ⟨v4, r4, ha4, o4, g4, _⟩ := run_appY kN r3 50 (w1.heap.size + 1) _ v _ 1 1 [(pp : Int)] s3 (O2.grow b3) (by omega) (by unfold maxLen; omega) (by show ((orE l (S.take i)).length + 1) * 8 ≤ _; omega)
          have b4 : Below (w1.heap.size + 1) r2 r4 := (b3.mono (by omega)).grown g4 (by omega) (fun k hk => (O2.blk k hk).1)
          have z4 := b4.size
          refine vw (v4) r4 (want_none rfl) (ex_app18 rfl (q217.e (j := 50) rfl) (q217.e (j := 52) rfl) ha4) rfl q217.z (by decide) (q217.k fun _ q218 => ?_);clear q217
          refine q218.t (v4) (ex_assign rfl (q218.e (j := 53) rfl)) fun _ q219 => ?_;clear q218
          refine wpList_nil ?_
          go_upto_region 17 with fail
          refine wp_region_lit ?_
          refine q219.t (.int .i64 ((i + 1 : Nat) : Int)) (ex_bin rfl (q219.e (j := 39) rfl) rfl (add1C _ _ i (by omega) _)) fun _ q220 => ?_;clear q219
          refine q220.t (.int .i64 ((i + 1 : Nat) : Int)) (ex_move rfl (q220.e (j := 54) rfl)) fun _ q221 => ?_;clear q220
          have q222 := (((((((Rp.nil q221.z).cons (q221.a 0 rfl)).cons (q221.a 7 rfl)).cons (q221.a 10 rfl)).cons (q221.a 37 rfl)).cons (q221.a 38 rfl)).cons (q221.a 39 rfl))
          clear q221
          refine wpList_nil ?_
          exact ⟨_, rfl, his, v4, q222, bw2.trans (b4.mono (by omega)), by omega, M2.keep8 b4 (by omega), by rw [hOa, hp]; exact o4⟩
      · obtain rfl : i = S.length := by omega
        rw [List.take_length] at hO
        obtain ⟨a9, c9, rfl, s9, _⟩ := hO.sl kN
        go_upto_region 12 with fail
        refine wp_region_lit ?_
        refine q200.t (.bool false) (ex_bin rfl (q200.e (j := 39) rfl) (q200.e (j := 38) rfl) (ltF _ _ his _)) fun _ q201 => ?_;clear q200
        refine wpList_nil ?_
        go_upto_region 18 with fail
        refine wp_cond_false (q201.e (j := 40) rfl) ?_
        go_upto_region 18 with fail
        refine wp_region_lit ?_
        refine q201.t (.slice a l.length c) (ex_move rfl (q201.e (j := 0) rfl)) fun _ q202 => ?_;clear q201
        refine q202.t (.slice a9 (orE l S).length c9) (ex_move rfl (q202.e (j := 10) rfl)) fun _ q203 => ?_;clear q202
        refine vcallP (want_none rfl) (ex_call rfl (by simp only [List.map_toArray, List.map_cons, List.map_nil, (q203.e (j := 56) rfl), (q203.e (j := 57) rfl), evc] <;> rfl) rfl) (standing_any l a c (orE l S) a9 c9 wi (h.on bi (Nat.le_refl _)) s9 hbl) rfl q203.z (by decide) ?_
        rintro e r1 ⟨v5, rfl, o5, c1⟩
        refine ⟨_, rfl, q203.k fun _ q204 => ?_⟩;clear q203
        have y1 := c1.size
        have bw1 : Below w.heap.size w r1 := bi.trans (c1.mono zi)
        have hst := stnd_ok l.length (orE l S)
        refine q204.t (.tuple #[v5, .bool (stnd l.length (orE l S)).isSome]) (ex_move rfl (q204.e (j := 58) rfl)) fun _ q205 => ?_;clear q204
        refine q205.t (v5) (ex_ext18 rfl (q205.e (j := 55) rfl) rfl) fun _ q206 => ?_;clear q205
        refine q206.t (.bool (stnd l.length (orE l S)).isSome) (ex_ext18 rfl (q206.e (j := 55) rfl) rfl) fun _ q207 => ?_;clear q206
        refine q207.t (v5) (ex_assign rfl (q207.e (j := 59) rfl)) fun _ q208 => ?_;clear q207
        refine q208.t (.bool (stnd l.length (orE l S)).isSome) (ex_assign rfl (q208.e (j := 60) rfl)) fun _ q209 => ?_;clear q208
        have q210 := (((((Rp.nil q209.z).cons (q209.a 0 rfl)).cons (q209.a 10 rfl)).cons (q209.a 15 rfl)).cons (q209.a 16 rfl))
        clear q209
        refine wpList_nil ?_
        go_upto_region 19 with fail
        refine wp_region_lit ?_
        cases hok : okO l.length [] (orE l S) with
        | false =>
          rw [hok, if_neg (by simp)] at hst
          rw [hst] at q210
          have hE : odR l S = ([], 182) := by unfold odR; rw [if_neg (by simp [hk]), hok]; rfl
          refine q210.t (.bool false) (ex_move rfl (q210.e (j := 16) rfl)) fun _ q211 => ?_;clear q210
          refine q211.t (.bool true) (ex_not rfl (q211.e (j := 61) rfl)) fun _ q212 => ?_;clear q211
          refine q212.t (.bool true) (ex_move rfl (q212.e (j := 62) rfl)) fun _ q213 => ?_;clear q212
          refine vl (true && (true == false)) (.slice a l.length c) (want_g rfl rfl (q213.a 63 rfl)) (fun hc => ex_move rfl (q213.e (j := 0) rfl)) rfl q213.z (by decide) (q213.k fun _ q214 => ?_);clear q213
          refine vl (true && (true == false)) (v5) (want_g rfl rfl (q214.a 63 rfl)) (fun hc => ex_move rfl (q214.e (j := 15) rfl)) rfl q214.z (by decide) (q214.k fun _ q215 => ?_);clear q214
          refine vcall (true && (true == false)) (.bool false) (fid := 0) (args := #[]) (want_g rfl rfl (q215.a 63 rfl)) (fun hc => absurd hc (by decide)) (fun hc => absurd hc (by decide)) rfl q215.z (by decide) (q215.kc fun _ r2 d2 q216 => ?_);clear q215
          refine q216.t (.bool true) (ex_or (c := true) (b := true) (z := false) rfl (q216.a 63 rfl) (q216.a 66 rfl) rfl) fun _ q217 => ?_;clear q216
          refine wpList_nil ?_
          go_upto_region 20 with fail
          refine wp_cond_true (q217.e (j := 67) rfl) ?_
          go_upto_region 20 with fail
          refine wp_region_lit ?_
          refine q217.t (.slice none 0 0) (ex_assign rfl rfl) fun _ q218 => ?_;clear q217
          refine q218.t (.int .i64 182) (ex_assign rfl rfl) fun _ q219 => ?_;clear q218
          refine wpList_nil ?_
          go_wp2
          exact bodyPost_ret (results2_18 rfl (q219.a 4 rfl) (q219.a 5 rfl)) rfl ⟨_, by rw [hE], by rw [hE]; exact OwnY.nil _ _ _, bw1.trans (d2.mono bw1.size)⟩
        | true =>
          rw [hok, if_pos rfl] at hst
          rw [hst] at q210
          rw [hst] at o5
          obtain ⟨a5, c5, hv5, s5, _⟩ := o5.sl kT
          simp only [Option.getD_some] at s5 hv5
          have hdl : (dO l.length (orE l S)).length = l.length := by simp [dO]
          refine q210.t (.bool true) (ex_move rfl (q210.e (j := 16) rfl)) fun _ q211 => ?_;clear q210
          refine q211.t (.bool false) (ex_not rfl (q211.e (j := 61) rfl)) fun _ q212 => ?_;clear q211
          refine q212.t (.bool false) (ex_move rfl (q212.e (j := 62) rfl)) fun _ q213 => ?_;clear q212
          refine vl (true && (false == false)) (.slice a l.length c) (want_g rfl rfl (q213.a 63 rfl)) (fun hc => ex_move rfl (q213.e (j := 0) rfl)) rfl q213.z (by decide) (q213.k fun _ q214 => ?_);clear q213
          refine vl (true && (false == false)) (v5) (want_g rfl rfl (q214.a 63 rfl)) (fun hc => ex_move rfl (q214.e (j := 15) rfl)) rfl q214.z (by decide) (q214.k fun _ q215 => ?_);clear q214
          refine vcall (true && (false == false)) (.bool (lckK l (dO l.length (orE l S)))) (want_g rfl rfl (q215.a 63 rfl)) (fun hc => ex_call rfl (by simp only [List.map_toArray, List.map_cons, List.map_nil, ev (q215.a 64 rfl) hc, (ev (q215.a 65 rfl) hc).trans hv5, evc] <;> rfl) rfl) (fun hc => lacks_any l a c (dO l.length (orE l S)) a5 c5 r1 (h.on bw1 (Nat.le_refl _)) s5 (by omega)) rfl q215.z (by decide) (q215.kc fun _ r2 d2 q216 => ?_);clear q215
          refine q216.t (.bool (false || lckK l (dO l.length (orE l S)))) (ex_or (c := true) (b := false) (z := lckK l (dO l.length (orE l S))) rfl (q216.a 63 rfl) (q216.a 66 rfl) rfl) fun _ q217 => ?_;clear q216
          have q218 := (((Rp.nil q217.z).cons (q217.a 10 rfl)).cons (q217.a 67 rfl))
          clear q217
          refine wpList_nil ?_
          cases hlk : lckK l (dO l.length (orE l S)) with
          | true =>
            have q218x := q218.a 67 rfl
            rw [hlk] at q218x
            have hE : odR l S = ([], 182) := by unfold odR; rw [if_neg (by simp [hk]), hok, hlk]; rfl
            go_upto_region 20 with fail
            refine wp_cond_true (ev q218x rfl) ?_
            go_upto_region 20 with fail
            refine wp_region_lit ?_
            refine q218.t (.slice none 0 0) (ex_assign rfl rfl) fun _ q219 => ?_;clear q218
            refine q219.t (.int .i64 182) (ex_assign rfl rfl) fun _ q220 => ?_;clear q219
            refine wpList_nil ?_
            go_wp2
            exact bodyPost_ret (results2_18 rfl (q220.a 4 rfl) (q220.a 5 rfl)) rfl ⟨_, by rw [hE], by rw [hE]; exact OwnY.nil _ _ _, bw1.trans (d2.mono bw1.size)⟩
          | false =>
            have q218x := q218.a 67 rfl
            rw [hlk] at q218x
            have hE : odR l S = (orE l S, 0) := by unfold odR; rw [if_neg (by simp [hk]), hok, hlk]; rfl
            go_upto_region 21 with fail
            refine wp_cond_false (ev q218x rfl) ?_
            clear q218x
            go_upto_region 21 with fail
            refine wp_region_lit ?_
            refine q218.t (.slice a9 (orE l S).length c9) (ex_move rfl (q218.e (j := 10) rfl)) fun _ q219 => ?_;clear q218
            refine q219.t (.slice a9 (orE l S).length c9) (ex_assign rfl (q219.e (j := 68) rfl)) fun _ q220 => ?_;clear q219
            refine q220.t (.int .i64 0) (ex_assign rfl rfl) fun _ q221 => ?_;clear q220
            refine wpList_nil ?_
            go_wp2
            exact bodyPost_ret (results2_18 rfl (q221.a 4 rfl) (q221.a 5 rfl)) rfl ⟨_, by rw [hE], by rw [hE]; exact ((hO.grow c1).grow d2).low (by omega), bw1.trans (d2.mono bw1.size)⟩
  · have hk2 : kchk l = 180 := (kcA_zero [] l).resolve_left hk
    have hE : odR l S = ([], 180) := by unfold odR; rw [if_pos hk]
    have q8x := q8.a 20 rfl
    rw [decide_eq_false hk] at q8x
    go_upto_region 3 with fail
    refine wp_cond_true (ev q8x rfl) ?_
    clear q8x
    go_upto_region 3 with fail
    refine wp_region_lit ?_
    refine q8.t (.int .i64 (kchk l : Int)) (ex_move rfl (q8.e (j := 6) rfl)) fun _ q9 => ?_;clear q8
    refine q9.t (.slice none 0 0) (ex_assign rfl rfl) fun _ q10 => ?_;clear q9
    refine q10.t (.int .i64 180) (ex_assign rfl ((q10.e (j := 21) rfl).trans (by rw [hk2]))) fun _ q11 => ?_;clear q10
    refine wpList_nil ?_
    go_wp2
    exact bodyPost_ret (results2_18 rfl (q11.a 4 rfl) (q11.a 5 rfl)) rfl ⟨_, by rw [hE], by rw [hE]; exact OwnY.nil _ _ _, b1⟩

end Go.Proofs.Ytjkleldoeojbbaa

namespace Go.Proofs.Ytjkleldoeojbbaa
open Go.ChangeShapes Go.WideShapes Go.ChangeAt Go.RowKit Go.Maps
open Classical
set_option linter.unusedVariables false
set_option linter.unusedSimpArgs false

theorem okO_snoc (n : Nat) (p : Int) : ∀ (r ahead : List Int), okO n ahead (r ++ [p]) = (okO n ahead r && !(decide (p < 0) || (decide ((n : Int) ≤ p) || hasI (ahead ++ r) p)))
  | [], ahead => by
    rw [List.nil_append, List.append_nil]
    unfold okO okO
    by_cases h1 : p < 0 <;> by_cases h2 : (n : Int) ≤ p <;> by_cases h3 : hasI ahead p = true <;> simp [h1, h2, h3]
  | q :: r, ahead => by
    rw [List.cons_append, okO, okO]
    split
    · rfl
    · rw [okO_snoc n p r, List.append_assoc]; rfl
theorem okO_pre (n : Nat) (t : List Int) : ∀ (r ahead : List Int), okO n ahead (r ++ t) = true → okO n ahead r = true
  | [], ahead, h => by simp [okO]
  | q :: r, ahead, h => by
    rw [List.cons_append, okO] at h
    rw [okO]
    split at h
    · cases h
    · rename_i hc; rw [if_neg hc]; exact okO_pre n t r _ h
theorem okO_bad {n : Nat} {r t : List Int} {p : Int} (h : hasI r p = true) : okO n [] (r ++ p :: t) = false := by
  cases e : okO n [] (r ++ p :: t) with
  | false => rfl
  | true =>
    have e2 : r ++ p :: t = (r ++ [p]) ++ t := by simp
    rw [e2] at e
    have := okO_pre n t _ _ e
    rw [okO_snoc] at this
    simp [h] at this
theorem orE_parts (l : List Kl) (S : List En18) (i : Nat) {y : En18} (hy : S[i]? = some y) {p : Nat} (hp : plE l y = some p) : orE l S = orE l (S.take i) ++ (p : Int) :: orE l (S.drop (i + 1)) := by
  obtain ⟨hi, rfl⟩ := List.getElem?_eq_some_iff.1 hy
  have e : S = S.take i ++ S[i] :: S.drop (i + 1) := by rw [← List.drop_eq_getElem_cons hi, List.take_append_drop]
  have e2 : orE l S = orE l (S.take i ++ S[i] :: S.drop (i + 1)) := congrArg (orE l) e
  rw [e2]
  unfold orE
  rw [List.filterMap_append, List.filterMap_cons, hp]
  rfl
theorem plE_whole {l : List Kl} (hu : unq l) {j : Nat} {x : Kl} (hx : l[j]? = some x) : plE l x.en = some j := by
  have hj := (List.getElem?_eq_some_iff.1 hx).1
  have h0 := plE_at hu hx x.en
  rw [if_pos (eEn_t rfl)] at h0
  unfold plE at h0 ⊢
  have e : l = l.take (j + 1) ++ l.drop (j + 1) := (List.take_append_drop _ _).symm
  rw [e, List.findIdx?_append, h0]
  rfl
def plT (l : List Kl) (j : Nat) (y : En18) : List Int := ((plE (l.take j) y).map fun (p : Nat) => (p : Int)).toList
theorem KAt.later8 {w w' : World} {q o : Nat} {x : Kl} (h : KAt w q o x) (hb : Below w.heap.size w w') : KAt w' q o x :=
  ⟨Nat.lt_of_lt_of_le h.lt hb.size, (hb.cell (p := ⟨q, o, none⟩) h.lt).trans h.c0, (hb.cell (p := ⟨q, o + 1, none⟩) h.lt).trans h.c1, (hb.cell (p := ⟨q, o + 2, none⟩) h.lt).trans h.c2, (hb.cell (p := ⟨q, o + 3, none⟩) h.lt).trans h.c3, (hb.cell (p := ⟨q, o + 4, none⟩) h.lt).trans h.c4, (hb.cell (p := ⟨q, o + 5, none⟩) h.lt).trans h.c5, (hb.cell (p := ⟨q, o + 6, none⟩) h.lt).trans h.c6, (hb.cell (p := ⟨q, o + 7, none⟩) h.lt).trans h.c7, (hb.cell (p := ⟨q, o + 8, none⟩) h.lt).trans h.c8, (hb.cell (p := ⟨q, o + 9, none⟩) h.lt).trans h.c9⟩
theorem KAt.ldO8 {w : World} {q o : Nat} {x : Kl} (h : KAt w q o x) : (Instr.loadAt 62 (.pointer (some ⟨q, o + 2, none⟩))).run Try.prog w = .ok (.agg #[.int .i64 x.o.k, .int .i64 x.o.s, .string x.o.v]) w :=
  run_loadAt_mid (P := Try.prog) w q (o + 2) 62 [.int .i64 x.o.k, .int .i64 x.o.s, .string x.o.v] _ (fun j v hv => by
    match j, hv with
    | 0, hv => cases hv; exact h.c2
    | 1, hv => cases hv; exact h.c3
    | 2, hv => cases hv; exact h.c4
    | j + 3, hv => simp at hv) Try.underlying62 rfl info3o
theorem faK2o (q o : Nat) (w : World) : (Instr.fieldAt 66 (.pointer (some ⟨q, o, none⟩)) 2).run Try.prog w = .ok (.pointer (some ⟨q, o + 2, none⟩)) w := by go_simp
set_option maxRecDepth 100000 in
set_option maxHeartbeats 2000000 in
theorem refOrder18 (l : List Kl) (a : Option Addr) (c : Nat) (S : List En18) (a2 : Option Addr) (c2 : Nat) (w : World) (h : SlY yK w a l.length c l) (h2 : SlY yE18 w a2 S.length c2 S) (hfx : ∀ x ∈ l, x.fits) (hbl : l.length ≤ 140737488355328) (hb2 : S.length * 48 ≤ 140737488351232) :
    Calls Try.prog 25 #[.slice a l.length c, .slice a2 S.length c2] w fun e w' => ∃ v, e = .returned (.tuple #[v, .int .i64 (odR l S).2]) ∧ OwnY yN w.heap.size w' v (odR l S).1 ∧ Below w.heap.size w w' := by
  go_enter Try.func25, Try.ntmps25
  go_upto_region 0 with fail
  refine wp_region_lit ?_
  refine vl_gen (fun T => Rp T 72 [(1, gw true (.slice a2 S.length c2)), (0, gw true (.slice a l.length c))]) (((Rp.nil rfl).cons rfl).cons rfl) (fun Z0 q0 => ?_)
  refine q0.t (.slice none 0 0) (ex_assign rfl rfl) fun _ q1 => ?_;clear q0
  refine q1.t (.int .i64 0) (ex_assign rfl rfl) fun _ q2 => ?_;clear q1
  refine wpList_nil ?_
  go_upto_region 1 with fail
  refine wp_region_lit ?_
  refine q2.t (.slice a l.length c) (ex_move rfl (q2.e (j := 0) rfl)) fun _ q3 => ?_;clear q2
  refine vcallP (want_none rfl) (ex_call rfl (by simp only [List.map_toArray, List.map_cons, List.map_nil, (q3.e (j := 10) rfl), evc] <;> rfl) rfl) (refCheck18 l a c w h hfx hbl) rfl q3.z (by decide) ?_
  rintro e w1 ⟨rfl, b1⟩
  refine ⟨_, rfl, q3.k fun _ q4 => ?_⟩;clear q3
  have z1 := b1.size
  refine q4.t (.bool (!decide (kchk l = 0))) (ex_bin rfl (q4.e (j := 11) rfl) rfl (neqC _ _ _ _ _)) fun _ q5 => ?_;clear q4
  have q6 := ((((Rp.nil q5.z).cons (q5.a 0 rfl)).cons (q5.a 1 rfl)).cons (q5.a 12 rfl))
  clear q5
  refine wpList_nil ?_
  by_cases hk : kchk l = 0
  · have hu := unq_of hk
    have q6x := q6.a 12 rfl
    rw [hk] at q6x
    go_upto_region 3 with fail
    refine wp_cond_false (ev q6x rfl) ?_
    clear q6x
    go_upto_region 3 with fail
    refine wp_region_lit ?_
    refine q6.t (.slice none 0 0) (ex_assign rfl rfl) fun _ q7 => ?_;clear q6
    refine wpList_nil ?_
    go_upto_region 4 with fail
    refine wp_region_lit ?_
    refine q7.t (.int .i64 ((0 : Nat) : Int)) (ex_assign rfl rfl) fun _ q8 => ?_;clear q7
    have q9 := (((((Rp.nil q8.z).cons (q8.a 0 rfl)).cons (q8.a 1 rfl)).cons (q8.a 6 rfl)).cons (q8.a 7 rfl))
    clear q8
    refine wpList_nil ?_
    go_upto_region 5 with fail
    refine v_loop 7 S.length (fun i T wr => ∃ v, Rp T 72 [(7, gw true (.int .i64 (i : Int))), (6, gw true v), (1, gw true (.slice a2 S.length c2)), (0, gw true (.slice a l.length c))] ∧ Hid (Below w.heap.size w wr ∧ OwnY yN w.heap.size wr v (orE l (S.take i)) ∧ okO l.length [] (orE l (S.take i)) = true)) (fun i T w h => by obtain ⟨v, h, _⟩ := h; exact h.a 7 rfl) ⟨_, q9, b1, OwnY.nil _ _ _, by simp [orE, okO]⟩ ?_
    clear q9
    intro i T wi hi hh
    obtain ⟨v, q100, HJ⟩ := hh
    obtain ⟨bi, hO, hok⟩ := HJ.out
    clear HJ
    have zi := bi.size
    by_cases his : i < S.length
    · obtain ⟨y, hy⟩ : ∃ y, S[i]? = some y := ⟨_, List.getElem?_eq_getElem his⟩
      have hOa := orE_at (l := l) hy
      have hol := orE_len l (S.take i)
      rw [List.length_take] at hol
      go_upto_region 5 with fail
      refine wp_region_lit ?_
      refine q100.t (.int .i64 (i : Int)) (ex_move rfl (q100.e (j := 7) rfl)) fun _ q101 => ?_;clear q100
      refine q101.t (.slice a2 S.length c2) (ex_move rfl (q101.e (j := 1) rfl)) fun _ q102 => ?_;clear q101
      refine q102.t (.int .i64 (S.length : Int)) (ex_lenG rfl rfl Try.underlying42 (q102.e (j := 14) rfl)) fun _ q103 => ?_;clear q102
      refine q103.t (.bool true) (ex_bin rfl (q103.e (j := 13) rfl) (q103.e (j := 15) rfl) (ltT _ _ his _)) fun _ q104 => ?_;clear q103
      refine wpList_nil ?_
      go_upto_region 7 with fail
      refine wp_cond_true (q104.e (j := 16) rfl) ?_
      go_upto_region 7 with fail
      refine wp_region_lit ?_
      refine q104.t (.int .i64 ((0 : Nat) : Int)) (ex_assign rfl rfl) fun _ q105 => ?_;clear q104
      have q106 := ((((((Rp.nil q105.z).cons (q105.a 0 rfl)).cons (q105.a 1 rfl)).cons (q105.a 6 rfl)).cons (q105.a 7 rfl)).cons (q105.a 8 rfl))
      clear q105
      refine wpList_nil ?_
      go_upto_region 8 with fail
      refine v_loop 8 l.length (fun j T wr => ∃ v, Rp T 72 [(8, gw true (.int .i64 (j : Int))), (7, gw true (.int .i64 (i : Int))), (6, gw true v), (1, gw true (.slice a2 S.length c2)), (0, gw true (.slice a l.length c))] ∧ Hid (Below w.heap.size w wr ∧ OwnY yN w.heap.size wr v (orE l (S.take i) ++ plT l j y) ∧ okO l.length [] (orE l (S.take i) ++ plT l j y) = true)) (fun j T w h => by obtain ⟨v, h, _⟩ := h; exact h.a 8 rfl) ⟨_, q106, bi, by simpa [plT, plE] using hO, by simpa [plT, plE] using hok⟩ ?_
      clear q106 hO bi zi hok
      clear v
      intro j T2 wr hj hh2
      obtain ⟨v, q200, HJ⟩ := hh2
      obtain ⟨br, hO, hok⟩ := HJ.out
      clear HJ
      have zr := br.size
      by_cases hit : j < l.length
      · obtain ⟨x, hx⟩ : ∃ x, l[j]? = some x := ⟨_, List.getElem?_eq_getElem hit⟩
        obtain ⟨qa, oa, hqa, hKx⟩ := (h.on br (Nat.le_refl _)).kl hx
        obtain ⟨qb, ob, hqb, hEy⟩ := (h2.on br (Nat.le_refl _)).en8 hy
        have hpa := plE_at hu hx y
        go_upto_region 8 with fail
        refine wp_region_lit ?_
        refine q200.t (.int .i64 (j : Int)) (ex_move rfl (q200.e (j := 8) rfl)) fun _ q201 => ?_;clear q200
        refine q201.t (.slice a l.length c) (ex_move rfl (q201.e (j := 0) rfl)) fun _ q202 => ?_;clear q201
        refine q202.t (.int .i64 (l.length : Int)) (ex_len18 rfl rfl (q202.e (j := 20) rfl)) fun _ q203 => ?_;clear q202
        refine q203.t (.bool true) (ex_bin rfl (q203.e (j := 19) rfl) (q203.e (j := 21) rfl) (ltT _ _ hit _)) fun _ q204 => ?_;clear q203
        refine wpList_nil ?_
        go_upto_region 10 with fail
        refine wp_cond_true (q204.e (j := 22) rfl) ?_
        go_upto_region 10 with fail
        refine vq_start (C := fun v => Below wr.heap.size wr v) (by kernel_rfl) (by kernel_rfl) (Below.refl _ _).drew ?_
        refine q204.q (.slice a l.length c) (fun v hv => ex_move rfl (q204.e (j := 0) rfl)) fun _ q205 => ?_;clear q204
        refine q205.q (.int .i64 (j : Int)) (fun v hv => ex_move rfl (q205.e (j := 8) rfl)) fun _ q206 => ?_;clear q205
        refine q206.q (.pointer (some ⟨qa, oa + j * 10, none⟩)) (fun v hv => ex_ix rfl (q206.e (j := 25) rfl) (q206.e (j := 26) rfl) (by rw [hqa]; exact ixK qa oa l.length c j hit _)) fun _ q207 => ?_;clear q206
        refine q207.q (.pointer (some ⟨qa, oa + j * 10, none⟩)) (fun v hv => ex_fa rfl (q207.e (j := 27) rfl) (faK0o _ _ _)) fun _ q208 => ?_;clear q207
        refine q208.q (.int .i64 x.c) (fun v hv => ex_ld rfl (q208.e (j := 28) rfl) (ldI18 (hKx.later8 hv).c0)) fun _ q209 => ?_;clear q208
        refine q209.q (.slice a l.length c) (fun v hv => ex_move rfl (q209.e (j := 0) rfl)) fun _ q210 => ?_;clear q209
        refine q210.q (.int .i64 (j : Int)) (fun v hv => ex_move rfl (q210.e (j := 8) rfl)) fun _ q211 => ?_;clear q210
        refine q211.q (.pointer (some ⟨qa, oa + j * 10, none⟩)) (fun v hv => ex_ix rfl (q211.e (j := 30) rfl) (q211.e (j := 31) rfl) (by rw [hqa]; exact ixK qa oa l.length c j hit _)) fun _ q212 => ?_;clear q211
        refine q212.q (.pointer (some ⟨qa, oa + j * 10 + 1, none⟩)) (fun v hv => ex_fa rfl (q212.e (j := 32) rfl) (faK1o _ _ _)) fun _ q213 => ?_;clear q212
        refine q213.q (.int .i64 x.n) (fun v hv => ex_ld rfl (q213.e (j := 33) rfl) (ldI18 (hKx.later8 hv).c1)) fun _ q214 => ?_;clear q213
        refine q214.q (.slice a l.length c) (fun v hv => ex_move rfl (q214.e (j := 0) rfl)) fun _ q215 => ?_;clear q214
        refine q215.q (.int .i64 (j : Int)) (fun v hv => ex_move rfl (q215.e (j := 8) rfl)) fun _ q216 => ?_;clear q215
        refine q216.q (.pointer (some ⟨qa, oa + j * 10, none⟩)) (fun v hv => ex_ix rfl (q216.e (j := 35) rfl) (q216.e (j := 36) rfl) (by rw [hqa]; exact ixK qa oa l.length c j hit _)) fun _ q217 => ?_;clear q216
        refine q217.q (.pointer (some ⟨qa, oa + j * 10 + 2, none⟩)) (fun v hv => ex_fa rfl (q217.e (j := 37) rfl) (faK2o _ _ _)) fun _ q218 => ?_;clear q217
        refine q218.q (.agg #[.int .i64 x.o.k, .int .i64 x.o.s, .string x.o.v]) (fun v hv => ex_ld rfl (q218.e (j := 38) rfl) (hKx.later8 hv).ldO8) fun _ q219 => ?_;clear q218
        refine q219.q (x.en.val) (fun v hv => ex_buildP18 rfl (by simp only [List.map_toArray, List.map_cons, List.map_nil, q219.e (j := 29) rfl, q219.e (j := 34) rfl, q219.e (j := 39) rfl] <;> rfl) (bdEn18 _ _ _ _ _ _)) fun _ q220 => ?_;clear q219
        refine q220.q (.slice a2 S.length c2) (fun v hv => ex_move rfl (q220.e (j := 1) rfl)) fun _ q221 => ?_;clear q220
        refine q221.q (.int .i64 (i : Int)) (fun v hv => ex_move rfl (q221.e (j := 7) rfl)) fun _ q222 => ?_;clear q221
        refine q222.q (.pointer (some ⟨qb, ob + i * 5, none⟩)) (fun v hv => ex_ix rfl (q222.e (j := 41) rfl) (q222.e (j := 42) rfl) (by rw [hqb]; exact ixE18 qb ob S.length c2 i his _)) fun _ q223 => ?_;clear q222
        refine q223.q (y.val) (fun v hv => ex_ld rfl (q223.e (j := 43) rfl) (hEy.later hv).ld) fun _ q224 => ?_;clear q223
        refine q224.q (.bool (eEn x.en y)) (fun v hv => ex_bin rfl (q224.e (j := 40) rfl) (q224.e (j := 44) rfl) (eqlEn18 _ _ _ _ _)) fun _ q225 => ?_;clear q224
        refine vq_nil (fun r1 hr1 => ?_)
        have brw : Below w.heap.size w r1 := br.trans (hr1.mono zr)
        have O1 := hO.grow hr1
        have y1 := hr1.size
        have q226 := (((((((Rp.nil q225.z).cons (q225.a 0 rfl)).cons (q225.a 1 rfl)).cons (q225.a 6 rfl)).cons (q225.a 7 rfl)).cons (q225.a 8 rfl)).cons (q225.a 45 rfl))
        clear q225
        by_cases hxy : x.en = y
        · have q226x := q226.a 45 rfl
          rw [eEn_t hxy] at q226x
          rw [if_pos (eEn_t hxy)] at hpa
          have hnone : plE (l.take j) y = none := by rw [← hxy]; exact plE_new hu hx
          have hT0 : plT l j y = [] := by unfold plT; rw [hnone]; rfl
          have hT1 : plT l (j + 1) y = [(j : Int)] := by unfold plT; rw [hpa]; rfl
          rw [hT0, List.append_nil] at O1 hok
          obtain ⟨a9, c9, rfl, s9, _⟩ := O1.sl kN
          go_upto_region 11 with fail
          refine wp_cond_true (ev q226x rfl) ?_
          clear q226x
          go_upto_region 11 with fail
          refine wp_region_lit ?_
          refine q226.t (.slice a9 (orE l (S.take i)).length c9) (ex_move rfl (q226.e (j := 6) rfl)) fun _ q227 => ?_;clear q226
          refine q227.t (.int .i64 (j : Int)) (ex_move rfl (q227.e (j := 8) rfl)) fun _ q228 => ?_;clear q227
          refine vcallP (want_none rfl) (ex_call rfl (by simp only [List.map_toArray, List.map_cons, List.map_nil, (q228.e (j := 46) rfl), (q228.e (j := 47) rfl), evc] <;> rfl) rfl) (has18 (orE l (S.take i)) a9 c9 (j : Int) r1 s9 (by omega)) rfl q228.z (by decide) ?_
          rintro e r1 ⟨rfl, rfl⟩
          refine ⟨_, rfl, q228.k fun _ q229 => ?_⟩;clear q228
          have q230 := (((((((Rp.nil q229.z).cons (q229.a 0 rfl)).cons (q229.a 1 rfl)).cons (q229.a 6 rfl)).cons (q229.a 7 rfl)).cons (q229.a 8 rfl)).cons (q229.a 48 rfl))
          clear q229
          refine wpList_nil ?_
          cases hh : hasI (orE l (S.take i)) (j : Int) with
          | true =>
            have q230x := q230.a 48 rfl
            rw [hh] at q230x
            have hE : odR l S = ([], 182) := by unfold odR; rw [if_neg (by simp [hk]), orE_parts l S i hy (hxy ▸ plE_whole hu hx), okO_bad hh]; rfl
            go_upto_region 12 with fail
            refine wp_cond_true (ev q230x rfl) ?_
            go_upto_region 12 with fail
            refine wp_region_lit ?_
            refine q230.t (.slice none 0 0) (ex_assign rfl rfl) fun _ q231 => ?_;clear q230
            refine q231.t (.int .i64 182) (ex_assign rfl rfl) fun _ q232 => ?_;clear q231
            refine wpList_nil ?_
            go_wp2
            exact bodyPost_ret (results2_18 rfl (q232.a 4 rfl) (q232.a 5 rfl)) rfl ⟨_, by rw [hE], by rw [hE]; exact OwnY.nil _ _ _, brw⟩
          | false =>
            have q230x := q230.a 48 rfl
            rw [hh] at q230x
            go_upto_region 13 with fail
            refine wp_cond_false (ev q230x rfl) ?_
            clear q230x
            go_upto_region 13 with fail
            refine wp_region_lit ?_
            refine q230.t (.slice a9 (orE l (S.take i)).length c9) (ex_move rfl (q230.e (j := 6) rfl)) fun _ q231 => ?_;clear q230
            refine q231.t (.int .i64 (j : Int)) (ex_move rfl (q231.e (j := 8) rfl)) fun _ q232 => ?_;clear q231
            obtain ⟨r3, hr3⟩ : ∃ z, z = r1.alloc (.cells #[.int .i64 (j : Int)] 3) := ⟨_, rfl⟩
            refine vw (.slice (some ⟨r1.heap.size, 0, none⟩) 1 1) r3 (want_none rfl) (ex_bs18 rfl (q232.e (j := 50) rfl) (by rw [hr3]; exact bsN _ _)) rfl q232.z (by decide) (q232.k fun _ q233 => ?_);clear q232
            have s3 : SlY yN r3 (some ⟨r1.heap.size, 0, none⟩) 1 1 [(j : Int)] := by rw [hr3]; exact sl_box (Y := yN) r1 (j : Int) 3
            have b3 : Below r1.heap.size r1 r3 := by rw [hr3]; exact (Below.refl _ _).alloc (Nat.le_refl _) _
            clear hr3
            have y3 := b3.size
            obtain ⟨v4, r4, ha4, o4, g4, _⟩ := run_appY kN r3 50 w.heap.size _ _ _ 1 1 [(j : Int)] s3 (O1.grow b3) (by omega) (by unfold maxLen; omega) (by show ((orE l (S.take i)).length + 1) * 8 ≤ _; omega)
            have b4 : Below w.heap.size w r4 := (brw.trans (b3.mono (by omega))).grown g4 (by omega) (fun k hk => (O1.blk k hk).1)
            refine vw (v4) r4 (want_none rfl) (ex_app18 rfl (q233.e (j := 49) rfl) (q233.e (j := 51) rfl) ha4) rfl q233.z (by decide) (q233.k fun _ q234 => ?_);clear q233
            refine q234.t (v4) (ex_assign rfl (q234.e (j := 52) rfl)) fun _ q235 => ?_;clear q234
            refine wpList_nil ?_
            go_upto_region 9 with fail
            refine wp_region_lit ?_
            refine q235.t (.int .i64 (j : Int)) (ex_move rfl (q235.e (j := 8) rfl)) fun _ q236 => ?_;clear q235
            refine q236.t (.int .i64 ((j + 1 : Nat) : Int)) (ex_bin rfl (q236.e (j := 23) rfl) rfl (add1C _ _ j (by omega) _)) fun _ q237 => ?_;clear q236
            refine q237.t (.int .i64 ((j + 1 : Nat) : Int)) (ex_assign rfl (q237.e (j := 24) rfl)) fun _ q238 => ?_;clear q237
            have q239 := ((((((Rp.nil q238.z).cons (q238.a 0 rfl)).cons (q238.a 1 rfl)).cons (q238.a 6 rfl)).cons (q238.a 7 rfl)).cons (q238.a 8 rfl))
            clear q238
            refine wpList_nil ?_
            exact ⟨_, rfl, hit, v4, q239, b4, by rw [hT1]; exact o4, by rw [hT1, okO_snoc, hok, List.nil_append, hh]; simp; omega⟩
        · have q226x := q226.a 45 rfl
          rw [eEn_f hxy] at q226x
          rw [if_neg (eEn_n hxy)] at hpa
          have hT1 : plT l (j + 1) y = plT l j y := by unfold plT; rw [hpa]
          go_upto_region 9 with fail
          refine wp_cond_false (ev q226x rfl) ?_
          clear q226x
          go_upto_region 9 with fail
          refine wp_region_lit ?_
          refine q226.t (.int .i64 (j : Int)) (ex_move rfl (q226.e (j := 8) rfl)) fun _ q227 => ?_;clear q226
          refine q227.t (.int .i64 ((j + 1 : Nat) : Int)) (ex_bin rfl (q227.e (j := 23) rfl) rfl (add1C _ _ j (by omega) _)) fun _ q228 => ?_;clear q227
          refine q228.t (.int .i64 ((j + 1 : Nat) : Int)) (ex_assign rfl (q228.e (j := 24) rfl)) fun _ q229 => ?_;clear q228
          have q230 := ((((((Rp.nil q229.z).cons (q229.a 0 rfl)).cons (q229.a 1 rfl)).cons (q229.a 6 rfl)).cons (q229.a 7 rfl)).cons (q229.a 8 rfl))
          clear q229
          refine wpList_nil ?_
          exact ⟨_, rfl, hit, _, q230, brw, by rw [hT1]; exact O1, by rw [hT1]; exact hok⟩
      · obtain rfl : j = l.length := by omega
        have hTl : orE l (S.take i) ++ plT l l.length y = orE l (S.take (i + 1)) := by rw [hOa]; unfold plT; rw [List.take_length]
        rw [hTl] at hO hok
        go_upto_region 8 with fail
        refine wp_region_lit ?_
        refine q200.t (.int .i64 (l.length : Int)) (ex_move rfl (q200.e (j := 8) rfl)) fun _ q201 => ?_;clear q200
        refine q201.t (.slice a l.length c) (ex_move rfl (q201.e (j := 0) rfl)) fun _ q202 => ?_;clear q201
        refine q202.t (.int .i64 (l.length : Int)) (ex_len18 rfl rfl (q202.e (j := 20) rfl)) fun _ q203 => ?_;clear q202
        refine q203.t (.bool false) (ex_bin rfl (q203.e (j := 19) rfl) (q203.e (j := 21) rfl) (ltF _ _ hit _)) fun _ q204 => ?_;clear q203
        refine wpList_nil ?_
        go_upto_region 6 with fail
        refine wp_cond_false (q204.e (j := 22) rfl) ?_
        go_upto_region 6 with fail
        refine wp_region_lit ?_
        refine q204.t (.int .i64 (i : Int)) (ex_move rfl (q204.e (j := 7) rfl)) fun _ q205 => ?_;clear q204
        refine q205.t (.int .i64 ((i + 1 : Nat) : Int)) (ex_bin rfl (q205.e (j := 17) rfl) rfl (add1C _ _ i (by omega) _)) fun _ q206 => ?_;clear q205
        refine q206.t (.int .i64 ((i + 1 : Nat) : Int)) (ex_assign rfl (q206.e (j := 18) rfl)) fun _ q207 => ?_;clear q206
        have q208 := (((((Rp.nil q207.z).cons (q207.a 0 rfl)).cons (q207.a 1 rfl)).cons (q207.a 6 rfl)).cons (q207.a 7 rfl))
        clear q207
        refine wpList_nil ?_
        exact ⟨_, rfl, his, _, q208, br, hO, hok⟩
    · obtain rfl : i = S.length := by omega
      rw [List.take_length] at hO hok
      obtain ⟨a9, c9, rfl, s9, _⟩ := hO.sl kN
      have hol := orE_len l S
      go_upto_region 5 with fail
      refine wp_region_lit ?_
      refine q100.t (.int .i64 (S.length : Int)) (ex_move rfl (q100.e (j := 7) rfl)) fun _ q101 => ?_;clear q100
      refine q101.t (.slice a2 S.length c2) (ex_move rfl (q101.e (j := 1) rfl)) fun _ q102 => ?_;clear q101
      refine q102.t (.int .i64 (S.length : Int)) (ex_lenG rfl rfl Try.underlying42 (q102.e (j := 14) rfl)) fun _ q103 => ?_;clear q102
      refine q103.t (.bool false) (ex_bin rfl (q103.e (j := 13) rfl) (q103.e (j := 15) rfl) (ltF _ _ his _)) fun _ q104 => ?_;clear q103
      refine wpList_nil ?_
      go_upto_region 14 with fail
      refine wp_cond_false (q104.e (j := 16) rfl) ?_
      go_upto_region 14 with fail
      refine wp_region_lit ?_
      refine q104.t (.int .i64 ((0 : Nat) : Int)) (ex_assign rfl rfl) fun _ q105 => ?_;clear q104
      have q106 := ((((Rp.nil q105.z).cons (q105.a 0 rfl)).cons (q105.a 6 rfl)).cons (q105.a 9 rfl))
      clear q105
      refine wpList_nil ?_
      go_upto_region 15 with fail
      refine v_loop 9 l.length (fun j T u => Rp T 72 [(9, gw true (.int .i64 (j : Int))), (6, gw true (.slice a9 (orE l S).length c9)), (0, gw true (.slice a l.length c))] ∧ Hid (Below wi.heap.size wi u ∧ lcI l (dO l.length (orE l S)) j = false)) (fun j T w h => h.1.a 9 rfl) ⟨q106, Below.refl _ _, by simp [lcI]⟩ ?_
      clear q106
      intro j T2 u hj hh2
      obtain ⟨q200, HJ2⟩ := hh2
      obtain ⟨hub, hla2⟩ := HJ2.out
      clear HJ2
      have y4 := hub.size
      have bru : Below w.heap.size w u := bi.trans (hub.mono zi)
      by_cases hit : j < l.length
      · obtain ⟨y, hy⟩ : ∃ y, l[j]? = some y := ⟨_, List.getElem?_eq_getElem hit⟩
        obtain ⟨qb, ob, hqb, hqbl, hlb⟩ := (h.on bru (Nat.le_refl _)).place (by rintro rfl; simp at hy)
        have hls := lcI_succ (D := dO l.length (orE l S)) hy
        rw [dO_at _ hit] at hls
        go_upto_region 15 with fail
        refine wp_region_lit ?_
        refine q200.t (.int .i64 (j : Int)) (ex_move rfl (q200.e (j := 9) rfl)) fun _ q201 => ?_;clear q200
        refine q201.t (.slice a l.length c) (ex_move rfl (q201.e (j := 0) rfl)) fun _ q202 => ?_;clear q201
        refine q202.t (.int .i64 (l.length : Int)) (ex_len18 rfl rfl (q202.e (j := 54) rfl)) fun _ q203 => ?_;clear q202
        refine q203.t (.bool true) (ex_bin rfl (q203.e (j := 53) rfl) (q203.e (j := 55) rfl) (ltT _ _ hit _)) fun _ q204 => ?_;clear q203
        refine wpList_nil ?_
        go_upto_region 17 with fail
        refine wp_cond_true (q204.e (j := 56) rfl) ?_
        go_upto_region 17 with fail
        refine wp_region_lit ?_
        refine q204.t (.slice a l.length c) (ex_move rfl (q204.e (j := 0) rfl)) fun _ q205 => ?_;clear q204
        refine q205.t (.int .i64 (j : Int)) (ex_move rfl (q205.e (j := 9) rfl)) fun _ q206 => ?_;clear q205
        refine q206.t (.pointer (some ⟨qb, ob + j * 10, none⟩)) (ex_ix rfl (q206.e (j := 59) rfl) (q206.e (j := 60) rfl) (by rw [hqb]; exact ixK qb ob l.length c j hit _)) fun _ q207 => ?_;clear q206
        refine q207.t (.pointer (some ⟨qb, ob + j * 10 + 6, none⟩)) (ex_fa rfl (q207.e (j := 61) rfl) (faK4o _ _ _)) fun _ q208 => ?_;clear q207
        refine q208.t (.int .i64 y.e) (ex_ld rfl (q208.e (j := 62) rfl) (ldI18 (hlb j y hy 6 _ rfl))) fun _ q209 => ?_;clear q208
        refine q209.t (.bool (ansK y)) (ex_bin rfl (q209.e (j := 63) rfl) rfl (geqC18 _ _ _ _ _)) fun _ q210 => ?_;clear q209
        refine q210.t (.bool (ansK y)) (ex_move rfl (q210.e (j := 64) rfl)) fun _ q211 => ?_;clear q210
        refine vl (true && (ansK y == true)) (.slice a9 (orE l S).length c9) (want_g rfl rfl (q211.a 65 rfl)) (fun hc => ex_move rfl (q211.e (j := 6) rfl)) rfl q211.z (by decide) (q211.k fun _ q212 => ?_);clear q211
        refine vl (true && (ansK y == true)) (.int .i64 (j : Int)) (want_g rfl rfl (q212.a 65 rfl)) (fun hc => ex_move rfl (q212.e (j := 9) rfl)) rfl q212.z (by decide) (q212.k fun _ q213 => ?_);clear q212
        refine vcall (true && (ansK y == true)) (.bool (hasI (orE l S) (j : Int))) (want_g rfl rfl (q213.a 65 rfl)) (fun hc => ex_call rfl (by simp only [List.map_toArray, List.map_cons, List.map_nil, (ev (q213.a 66 rfl) hc), (ev (q213.a 67 rfl) hc), evc] <;> rfl) rfl) (fun hc => (has18 (orE l S) a9 c9 (j : Int) u (s9.on hub (Nat.le_refl _)) (by omega)).mono fun e w9 h9 => ⟨h9.1, h9.2 ▸ Below.refl _ _⟩) rfl q213.z (by decide) (q213.kc fun _ u1 hu1 q214 => ?_);clear q213
        refine vl (true && (ansK y == true)) (.bool (!hasI (orE l S) (j : Int))) (want_g rfl rfl (q214.a 65 rfl)) (fun hc => ex_not rfl (ev (q214.a 68 rfl) hc)) rfl q214.z (by decide) (q214.k fun _ q215 => ?_);clear q214
        refine q215.t (.bool (ansK y && !hasI (orE l S) (j : Int))) (ex_and rfl (q215.a 65 rfl) (q215.a 69 rfl) rfl) fun _ q216 => ?_;clear q215
        have q217 := (((((Rp.nil q216.z).cons (q216.a 0 rfl)).cons (q216.a 6 rfl)).cons (q216.a 9 rfl)).cons (q216.a 70 rfl))
        clear q216
        refine wpList_nil ?_
        cases hD : (ansK y && !hasI (orE l S) (j : Int)) with
        | true =>
          have q217x := q217.a 70 rfl
          rw [hD] at q217x
          have hlk : lckK l (dO l.length (orE l S)) = true := lck_of (j := j + 1) (by omega) (by rw [hls, hD]; simp)
          have hE : odR l S = ([], 182) := by unfold odR; rw [if_neg (by simp [hk]), hok, hlk]; rfl
          go_upto_region 18 with fail
          refine wp_cond_true (ev q217x rfl) ?_
          go_upto_region 18 with fail
          refine wp_region_lit ?_
          refine q217.t (.slice none 0 0) (ex_assign rfl rfl) fun _ q218 => ?_;clear q217
          refine q218.t (.int .i64 182) (ex_assign rfl rfl) fun _ q219 => ?_;clear q218
          refine wpList_nil ?_
          go_wp2
          exact bodyPost_ret (results2_18 rfl (q219.a 4 rfl) (q219.a 5 rfl)) rfl ⟨_, by rw [hE], by rw [hE]; exact OwnY.nil _ _ _, bru.trans (hu1.mono (by omega))⟩
        | false =>
          have q217x := q217.a 70 rfl
          rw [hD] at q217x
          go_upto_region 16 with fail
          refine wp_cond_false (ev q217x rfl) ?_
          clear q217x
          go_upto_region 16 with fail
          refine wp_region_lit ?_
          refine q217.t (.int .i64 (j : Int)) (ex_move rfl (q217.e (j := 9) rfl)) fun _ q218 => ?_;clear q217
          refine q218.t (.int .i64 ((j + 1 : Nat) : Int)) (ex_bin rfl (q218.e (j := 57) rfl) rfl (add1C _ _ j (by omega) _)) fun _ q219 => ?_;clear q218
          refine q219.t (.int .i64 ((j + 1 : Nat) : Int)) (ex_assign rfl (q219.e (j := 58) rfl)) fun _ q220 => ?_;clear q219
          have q221 := ((((Rp.nil q220.z).cons (q220.a 0 rfl)).cons (q220.a 6 rfl)).cons (q220.a 9 rfl))
          clear q220
          refine wpList_nil ?_
          exact ⟨_, rfl, hit, q221, hub.trans (hu1.mono y4), by rw [hls, hla2, hD]; rfl⟩
      · obtain rfl : j = l.length := by omega
        have hlk : lckK l (dO l.length (orE l S)) = false := hla2
        have hE : odR l S = (orE l S, 0) := by unfold odR; rw [if_neg (by simp [hk]), hok, hlk]; rfl
        go_upto_region 15 with fail
        refine wp_region_lit ?_
        refine q200.t (.int .i64 (l.length : Int)) (ex_move rfl (q200.e (j := 9) rfl)) fun _ q201 => ?_;clear q200
        refine q201.t (.slice a l.length c) (ex_move rfl (q201.e (j := 0) rfl)) fun _ q202 => ?_;clear q201
        refine q202.t (.int .i64 (l.length : Int)) (ex_len18 rfl rfl (q202.e (j := 54) rfl)) fun _ q203 => ?_;clear q202
        refine q203.t (.bool false) (ex_bin rfl (q203.e (j := 53) rfl) (q203.e (j := 55) rfl) (ltF _ _ hit _)) fun _ q204 => ?_;clear q203
        refine wpList_nil ?_
        go_upto_region 19 with fail
        refine wp_cond_false (q204.e (j := 56) rfl) ?_
        go_upto_region 19 with fail
        refine wp_region_lit ?_
        refine q204.t (.slice a9 (orE l S).length c9) (ex_move rfl (q204.e (j := 6) rfl)) fun _ q205 => ?_;clear q204
        refine q205.t (.slice a9 (orE l S).length c9) (ex_assign rfl (q205.e (j := 71) rfl)) fun _ q206 => ?_;clear q205
        refine q206.t (.int .i64 0) (ex_assign rfl rfl) fun _ q207 => ?_;clear q206
        refine wpList_nil ?_
        go_wp2
        exact bodyPost_ret (results2_18 rfl (q207.a 4 rfl) (q207.a 5 rfl)) rfl ⟨_, by rw [hE], by rw [hE]; exact hO.grow hub, bru⟩
  · have hE : odR l S = ([], 180) := by unfold odR; rw [if_pos hk]
    have q6x := q6.a 12 rfl
    rw [decide_eq_false hk] at q6x
    go_upto_region 2 with fail
    refine wp_cond_true (ev q6x rfl) ?_
    clear q6x
    go_upto_region 2 with fail
    refine wp_region_lit ?_
    refine q6.t (.slice none 0 0) (ex_assign rfl rfl) fun _ q7 => ?_;clear q6
    refine q7.t (.int .i64 180) (ex_assign rfl rfl) fun _ q8 => ?_;clear q7
    refine wpList_nil ?_
    go_wp2
    exact bodyPost_ret (results2_18 rfl (q8.a 4 rfl) (q8.a 5 rfl)) rfl ⟨_, by rw [hE], by rw [hE]; exact OwnY.nil _ _ _, b1⟩
set_option maxRecDepth 100000 in
set_option maxHeartbeats 2000000 in
theorem orders18 (l : List Kl) (a : Option Addr) (c : Nat) (S : List En18) (a2 : Option Addr) (c2 : Nat) (w : World) (h : SlY yK w a l.length c l) (h2 : SlY yE18 w a2 S.length c2 S) (hfx : ∀ x ∈ l, x.fits) (hfs : ∀ x ∈ S, x.fits) (hb : l.length * 96 ≤ 140737488351232) (hb2 : S.length * 48 ≤ 140737488351232) :
    Calls Try.prog 5 #[.slice a l.length c, .slice a2 S.length c2] w fun e w' => e = .returned (.bool true) ∧ Below w.heap.size w w' := by
  have hbl : l.length ≤ 140737488355328 := by omega
  go_enter Try.func5, Try.ntmps5
  go_upto_region 0 with fail
  refine wp_region_lit ?_
  refine vl_gen (fun T => Rp T 45 [(1, gw true (.slice a2 S.length c2)), (0, gw true (.slice a l.length c))]) (((Rp.nil rfl).cons rfl).cons rfl) (fun Z0 q0 => ?_)
  refine q0.t (.bool false) (ex_assign rfl rfl) fun _ q1 => ?_;clear q0
  refine wpList_nil ?_
  go_upto_region 1 with fail
  refine wp_region_lit ?_
  obtain ⟨w1, hw1⟩ : ∃ y, y = w.alloc (.cells (g18 nilS nilS).toArray 49) := ⟨_, rfl⟩
  refine vw (.pointer (some ⟨w.heap.size, 0, none⟩)) w1 (want_none rfl) (ex_al rfl (by rw [hw1]; exact alG18 _)) rfl q1.z (by decide) (q1.k fun _ q2 => ?_);clear q1
  have B1 : BB w1 w.heap.size 49 (gE18 nilS nilS) := by rw [hw1]; exact BB.new _ _ _
  have b1 : Below w.heap.size w w1 := by rw [hw1]; exact (Below.refl _ _).alloc (Nat.le_refl _) _
  clear hw1
  have z1 := b1.size
  have hq1 := B1.lt
  refine wpList_nil ?_
  go_upto_region 2 with fail
  refine wp_region_lit ?_
  refine q2.t (.slice a l.length c) (ex_move rfl (q2.e (j := 0) rfl)) fun _ q3 => ?_;clear q2
  refine vcallP (want_none rfl) (ex_call rfl (by simp only [List.map_toArray, List.map_cons, List.map_nil, (q3.e (j := 11) rfl), evc] <;> rfl) rfl) (lent_any l a c w1 (h.on b1 (Nat.le_refl _)) hb) rfl q3.z (by decide) ?_
  rintro e w2 ⟨a3, c3, rfl, hL2, b2⟩
  refine ⟨_, rfl, q3.k fun _ q4 => ?_⟩;clear q3
  have z2 := b2.size
  have b2w : Below w.heap.size w w2 := b1.trans (b2.mono z1)
  refine q4.t (.slice a3 l.length c3) (ex_assign rfl (q4.e (j := 12) rfl)) fun _ q5 => ?_;clear q4
  refine wpList_nil ?_
  go_upto_region 3 with fail
  refine wp_region_lit ?_
  refine q5.t (.slice a3 l.length c3) (ex_move rfl (q5.e (j := 6) rfl)) fun _ q6 => ?_;clear q5
  refine q6.t (.slice a2 S.length c2) (ex_move rfl (q6.e (j := 1) rfl)) fun _ q7 => ?_;clear q6
  refine vcallP (want_none rfl) (ex_call rfl (by simp only [List.map_toArray, List.map_cons, List.map_nil, (q7.e (j := 5) rfl), (q7.e (j := 15) rfl), evc] <;> rfl) rfl) (givenEntries18 S a2 c2 w.heap.size w2 (h2.on b2w (Nat.le_refl _)) hb2 (B1.later b2)) rfl q7.z (by decide) ?_
  rintro e w3 ⟨a4, c4, rfl, s4, ⟨h1, h2g, k1, k2, aa1, cc1, aa2, cc2, hG3⟩, u3⟩
  refine ⟨_, rfl, q7.k fun _ q8 => ?_⟩;clear q7
  have z3 := u3.size
  have b3w : Below w.heap.size w w3 := b2w.trans (u3.below (by omega) (fun k hk => by omega))
  have hL3 := hL2.upd18 u3 (fun k hk => by omega)
  refine vcallP (want_none rfl) (ex_call rfl (by simp only [List.map_toArray, List.map_cons, List.map_nil, (q8.e (j := 14) rfl), (q8.e (j := 16) rfl), evc] <;> rfl) rfl) (order18 l a3 c3 S a4 c4 w3 hL3.sl s4 hfx hfs hbl hb2) rfl q8.z (by decide) ?_
  rintro e w4 ⟨v7, rfl, o7, b4⟩
  refine ⟨_, rfl, q8.k fun _ q9 => ?_⟩;clear q8
  have z4 := b4.size
  have b4w : Below w.heap.size w w4 := b3w.trans (b4.mono b3w.size)
  have hG4 := hG3.later b4
  have hL4 := hL3.later b4
  obtain ⟨a7, c7, hv7, s7, _⟩ := o7.sl kN
  refine q9.t (.tuple #[v7, .int .i64 (odR l S).2]) (ex_move rfl (q9.e (j := 17) rfl)) fun _ q10 => ?_;clear q9
  refine q10.t (v7) (ex_ext18 rfl (q10.e (j := 13) rfl) rfl) fun _ q11 => ?_;clear q10
  refine q11.t (.int .i64 (odR l S).2) (ex_ext18 rfl (q11.e (j := 13) rfl) rfl) fun _ q12 => ?_;clear q11
  refine q12.t (v7) (ex_assign rfl (q12.e (j := 18) rfl)) fun _ q13 => ?_;clear q12
  refine q13.t (.int .i64 (odR l S).2) (ex_assign rfl (q13.e (j := 19) rfl)) fun _ q14 => ?_;clear q13
  have q15 := (((((((Rp.nil q14.z).cons (q14.a 0 rfl)).cons (q14.a 1 rfl)).cons (q14.a 5 rfl)).cons (q14.a 6 rfl)).cons (q14.a 7 rfl)).cons (q14.a 8 rfl))
  clear q14
  refine wpList_nil ?_
  go_upto_region 4 with fail
  refine wp_region_lit ?_
  refine q15.t (.slice a l.length c) (ex_move rfl (q15.e (j := 0) rfl)) fun _ q16 => ?_;clear q15
  refine q16.t (.slice a2 S.length c2) (ex_move rfl (q16.e (j := 1) rfl)) fun _ q17 => ?_;clear q16
  refine vcallP (want_none rfl) (ex_call rfl (by simp only [List.map_toArray, List.map_cons, List.map_nil, (q17.e (j := 21) rfl), (q17.e (j := 22) rfl), evc] <;> rfl) rfl) (refOrder18 l a c S a2 c2 w4 (h.on b4w (Nat.le_refl _)) (h2.on b4w (Nat.le_refl _)) hfx hbl hb2) rfl q17.z (by decide) ?_
  rintro e w5 ⟨v9, rfl, o9, b5⟩
  refine ⟨_, rfl, q17.k fun _ q18 => ?_⟩;clear q17
  have z5 := b5.size
  have b5w : Below w.heap.size w w5 := b4w.trans (b5.mono b4w.size)
  have hG5 := hG4.later b5
  have hL5 := hL4.later b5
  obtain ⟨a9, c9, hv9, s9, _⟩ := o9.sl kN
  refine q18.t (.tuple #[v9, .int .i64 (odR l S).2]) (ex_move rfl (q18.e (j := 23) rfl)) fun _ q19 => ?_;clear q18
  refine q19.t (v9) (ex_ext18 rfl (q19.e (j := 20) rfl) rfl) fun _ q20 => ?_;clear q19
  refine q20.t (.int .i64 (odR l S).2) (ex_ext18 rfl (q20.e (j := 20) rfl) rfl) fun _ q21 => ?_;clear q20
  refine q21.t (v9) (ex_assign rfl (q21.e (j := 24) rfl)) fun _ q22 => ?_;clear q21
  refine q22.t (.int .i64 (odR l S).2) (ex_assign rfl (q22.e (j := 25) rfl)) fun _ q23 => ?_;clear q22
  have q24 := ((((((((Rp.nil q23.z).cons (q23.a 0 rfl)).cons (q23.a 5 rfl)).cons (q23.a 6 rfl)).cons (q23.a 7 rfl)).cons (q23.a 8 rfl)).cons (q23.a 9 rfl)).cons (q23.a 10 rfl))
  clear q23
  refine wpList_nil ?_
  go_upto_region 5 with fail
  refine wp_region_lit ?_
  have hsm : (odR l S).1.length ≤ 140737488355328 := by
    have := orE_len l S
    unfold odR
    split
    · simp
    · split
      · show (orE l S).length ≤ _; omega
      · simp
  refine q24.t (.int .i64 (odR l S).2) (ex_move rfl (q24.e (j := 8) rfl)) fun _ q25 => ?_;clear q24
  refine q25.t (.int .i64 (odR l S).2) (ex_move rfl (q25.e (j := 10) rfl)) fun _ q26 => ?_;clear q25
  refine q26.t (.bool true) (ex_bin rfl (q26.e (j := 26) rfl) (q26.e (j := 27) rfl) (eqlSe _ _ _ _)) fun _ q27 => ?_;clear q26
  refine q27.t (.bool true) (ex_move rfl (q27.e (j := 28) rfl)) fun _ q28 => ?_;clear q27
  refine vl (true) (v7) (wantT18 rfl rfl (q28.a 29 rfl)) (fun hc => ex_move rfl (q28.e (j := 7) rfl)) rfl q28.z (by decide) (q28.k fun _ q29 => ?_);clear q28
  refine vl (true) (v9) (wantT18 rfl rfl (q29.a 29 rfl)) (fun hc => ex_move rfl (q29.e (j := 9) rfl)) rfl q29.z (by decide) (q29.k fun _ q30 => ?_);clear q29
  refine vcall true (.bool true) (wantT18 rfl rfl (q30.a 29 rfl)) (fun hc => ex_call rfl (by simp only [List.map_toArray, List.map_cons, List.map_nil, ((q30.e (j := 30) rfl).trans hv7), ((q30.e (j := 31) rfl).trans hv9), evc] <;> rfl) rfl) (fun hc => sameInts18 _ a7 a9 c7 c9 w5 (s7.on b5 (Nat.le_refl _)) s9 hsm) rfl q30.z (by decide) (q30.kc fun _ w55 b55 q31 => ?_);clear q30
  refine q31.t (.bool true) (ex_and (c := true) (b := true) (z := true) rfl (q31.a 29 rfl) (q31.a 32 rfl) rfl) fun _ q32 => ?_;clear q31
  refine q32.t (.bool true) (ex_move rfl (q32.e (j := 33) rfl)) fun _ q33 => ?_;clear q32
  have b55w : Below w.heap.size w w55 := b5w.trans (b55.mono b5w.size)
  have hG55 := hG5.later b55
  have hL55 := hL5.later b55
  refine vl (true) (.slice a3 l.length c3) (wantT18 rfl rfl (q33.a 34 rfl)) (fun hc => ex_move rfl (q33.e (j := 6) rfl)) rfl q33.z (by decide) (q33.k fun _ q34 => ?_);clear q33
  refine vl (true) (.slice a l.length c) (wantT18 rfl rfl (q34.a 34 rfl)) (fun hc => ex_move rfl (q34.e (j := 0) rfl)) rfl q34.z (by decide) (q34.k fun _ q35 => ?_);clear q34
  refine vcall true (.bool true) (wantT18 rfl rfl (q35.a 34 rfl)) (fun hc => ex_call rfl (by simp only [List.map_toArray, List.map_cons, List.map_nil, (q35.e (j := 35) rfl), (q35.e (j := 36) rfl), evc] <;> rfl) rfl) (fun hc => kept18 _ l a3 a c3 c w55 hL55 (h.on b55w (Nat.le_refl _)) hbl) rfl q35.z (by decide) (q35.kc fun _ w6 b6 q36 => ?_);clear q35
  refine q36.t (.bool true) (ex_and (c := true) (b := true) (z := true) rfl (q36.a 34 rfl) (q36.a 37 rfl) rfl) fun _ q37 => ?_;clear q36
  refine q37.t (.bool true) (ex_move rfl (q37.e (j := 38) rfl)) fun _ q38 => ?_;clear q37
  have b6w : Below w.heap.size w w6 := b55w.trans (b6.mono b55w.size)
  have hG6 := hG55.later b6
  refine vcall true (.bool true) (wantT18 rfl rfl (q38.a 39 rfl)) (fun hc => ex_call rfl (by simp only [List.map_toArray, List.map_cons, List.map_nil, (q38.e (j := 5) rfl), evc] <;> rfl) rfl) (fun hc => intactE18 _ _ _ _ _ _ _ _ _ _ w6 hG6 (by simp; omega)) rfl q38.z (by decide) (q38.kc fun _ w7 b7 q39 => ?_);clear q38
  refine q39.t (.bool true) (ex_and (c := true) (b := true) (z := true) rfl (q39.a 39 rfl) (q39.a 40 rfl) rfl) fun _ q40 => ?_;clear q39
  refine q40.t (.bool true) (ex_move rfl (q40.e (j := 41) rfl)) fun _ q41 => ?_;clear q40
  have b7w : Below w.heap.size w w7 := b6w.trans (b7.mono b6w.size)
  refine vcall true (.bool true) (wantT18 rfl rfl (q41.a 42 rfl)) (fun hc => ex_call (args := #[]) rfl (by simp) rfl) (fun hc => works18_any w7) rfl q41.z (by decide) (q41.kc fun _ w8 b8 q42 => ?_);clear q41
  refine q42.t (.bool true) (ex_and (c := true) (b := true) (z := true) rfl (q42.a 42 rfl) (q42.a 43 rfl) rfl) fun _ q43 => ?_;clear q42
  refine q43.t (.bool true) (ex_assign rfl (q43.e (j := 44) rfl)) fun _ q44 => ?_;clear q43
  refine wpList_nil ?_
  go_wp2
  refine bodyPost_ret (results_tmp rfl _ _ _) rfl ⟨?_, b7w.trans (b8.mono b7w.size)⟩
  rw [getD_of (q44.a 4 rfl)]
  rfl
set_option maxRecDepth 100000 in
theorem open_enc18 {H : Type} {enc : TypeId × Value → H} {W : World} {base : Nat} {sp : Nat → Bool} {held : Bool} {n : Nat} {cs : List Value} {x : DataW H × List MemPlace} (h : DataW.trod enc Try.prog W base sp held n 92 cs = some x) :
    ∃ p : En18, p.fits ∧ cs = p.cs := by
  obtain ⟨xs, k, hk, hxy, hlen, hxl, hf⟩ := DataW.trod_struct Try.underlying92 h
  rw [cellsEn] at hlen
  have hxl : xs.length = 3 := hxl
  match xs, hxl, cs, hlen with
  | [y0, y1, y2], _, [v0, v1, v2, v3, v4], _ =>
    have g0 := hf 0 _ rfl
    have g1 := hf 1 _ rfl
    have g2 := hf 2 _ rfl
    simp [intCells, opCells] at g0 g1 g2
    obtain ⟨K, hK, hx0, hw0⟩ := DataW.trod_int Try.underlying3 g0
    obtain ⟨N, hN, hx2, hw2⟩ := DataW.trod_int Try.underlying3 g1
    obtain ⟨o, ho, e⟩ := open_opc g2
    refine ⟨⟨K, N, o⟩, ⟨hw0, hw2, ho⟩, ?_⟩
    have e0 := (List.cons_eq_cons.1 hK).1
    have e1 := (List.cons_eq_cons.1 hN).1
    simp at e
    obtain ⟨e2, e3, e4⟩ := e
    subst e0 e1 e2 e3 e4
    rfl
theorem enBytes18 : Try.prog.bytesOf 92 = 48 := by kernel_rfl
/-- Entries that came in. -/
def CameE (W : World) (a : Option Addr) (n c : Nat) : Prop := ∃ P : List En18, SlY yE18 W a n c P ∧ (∀ x ∈ P, x.fits) ∧ n * 48 ≤ 140737488351232
set_option maxRecDepth 100000 in
theorem open_ents18 {H : Type} {enc : TypeId × Value → H} {W : World} {base : Nat} {v : Value} {d : DataW H} {p : List MemPlace} (hv : Value.okWide Try.prog W .any base 42 v) (h : DataW.Trod enc Try.prog W 0 (fun _ => true) true 42 v d p)
    (hs : ∀ el sp, d = .slice el sp → (el.length + sp.length) * Try.prog.bytesOf 92 ≤ reachBytes) : ∃ a len cap, v = .slice a len cap ∧ CameE W a len cap := by
  haveI : Inhabited En18 := ⟨zE18⟩
  obtain ⟨a, n, c, rfl, P, h1, h2, el, sp, e1, _, e3⟩ := open_rows18 kE18 En18.fits cellsEn (fun h => open_enc18 h) hv h
  refine ⟨a, n, c, rfl, P, h1, h2, ?_⟩
  rcases e3 with e3 | e3
  · omega
  · have := hs el sp e3
    rw [enBytes18, e1, Nat.add_mul] at this
    simp only [reachBytes] at this
    omega
theorem orders_came18 (a : Option Addr) (n c : Nat) (a2 : Option Addr) (n2 c2 : Nat) (W : World) (h : CameKl W a n c) (k : CameE W a2 n2 c2) : Calls Try.prog 5 #[.slice a n c, .slice a2 n2 c2] W fun e w' => e = .returned (.bool true) ∧ Below W.heap.size W w' := by
  obtain ⟨P, h1, h2, h3⟩ := h
  obtain ⟨O, k1, k2, k3⟩ := k
  have hl := h1.len
  have hk := k1.len
  subst hl
  subst hk
  exact orders18 P a c O a2 c2 W h1 k1 h2 k2 h3 k3

end Go.Proofs.Ytjkleldoeojbbaa
