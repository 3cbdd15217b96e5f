import Derived.Test.YtcopbidplblokaaK24
import Derived.Test.YtcopbidplblokaaK26
namespace Go.Proofs.Ytcopbidplblokaa
open Go.RowKit Go.Maps
open Classical
set_option linter.unusedVariables false
set_option linter.unusedSimpArgs false

theorem bxK18 (x : Kl) (w : World) : (Instr.box 39 x.val).run Try.prog w = .ok (.pointer (some ⟨w.heap.size, 0, none⟩)) (w.alloc (.cells x.cs.toArray 39)) := rfl
theorem eqlSe (x y : Operand) (a : Int) (w : World) : (do eqGuard .eql 3 x y (.int .i64 a) (.int .i64 a); binOp .eql 3 (.int .i64 a) (.int .i64 a) : Sem Value).run Try.prog w = .ok (.bool true) w := by
  rw [eqlC]
  simp
theorem eqlBs (x y : Operand) (a : Bool) (w : World) : (do eqGuard .eql 4 x y (.bool a) (.bool a); binOp .eql 4 (.bool a) (.bool a) : Sem Value).run Try.prog w = .ok (.bool true) w := by
  cases a <;> go_simp
set_option maxRecDepth 100000 in
set_option maxHeartbeats 1000000 in
theorem checks18 (l : List Kl) (a : Option Addr) (c : Nat) (x y : Kl) (w : World) (h : SlY yK w a l.length c l) (hfx : ∀ x ∈ l, x.fits) (hb : l.length * 96 ≤ 140737488351232) :
    Calls Try.prog 4 #[.slice a l.length c, x.val, y.val] w fun e w' => e = .returned (.bool true) ∧ Below w.heap.size w w' := by
  go_enter Try.func4, Try.ntmps4
  go_upto_region 0 with fail
  refine wp_region_lit ?_
  refine vl_gen (fun T => Rp T 32 [(2, gw true (y.val)), (1, gw true (x.val)), (0, gw true (.slice a l.length c))]) ((((Rp.nil rfl).cons rfl).cons rfl).cons rfl) (fun Z0 q0 => ?_)
  obtain ⟨w1, hw1⟩ : ∃ z, z = w.alloc (.cells x.cs.toArray 39) := ⟨_, rfl⟩
  refine vw (.pointer (some ⟨w.heap.size, 0, none⟩)) w1 (want_none rfl) (ex_box18 rfl (q0.e (j := 1) rfl) (by rw [hw1]; exact bxK18 _ _)) rfl q0.z (by decide) (q0.k fun _ q1 => ?_);clear q0
  have BX : BB w1 w.heap.size 39 x.cs := by rw [hw1]; exact BB.new _ _ _
  have bw1 : Below w.heap.size w w1 := by rw [hw1]; exact (Below.refl _ _).alloc (Nat.le_refl _) _
  clear hw1
  have zw1 := bw1.size
  obtain ⟨w2, hw2⟩ : ∃ z, z = w1.alloc (.cells y.cs.toArray 39) := ⟨_, rfl⟩
  refine vw (.pointer (some ⟨w1.heap.size, 0, none⟩)) w2 (want_none rfl) (ex_box18 rfl (q1.e (j := 2) rfl) (by rw [hw2]; exact bxK18 _ _)) rfl q1.z (by decide) (q1.k fun _ q2 => ?_);clear q1
  have BY : BB w2 w1.heap.size 39 y.cs := by rw [hw2]; exact BB.new _ _ _
  have bw2 : Below w1.heap.size w1 w2 := by rw [hw2]; exact (Below.refl _ _).alloc (Nat.le_refl _) _
  clear hw2
  have zw2 := bw2.size
  replace BX := BX.later bw2
  have c2 : Below w.heap.size w w2 := bw1.trans (bw2.mono zw1)
  refine q2.t (.bool false) (ex_assign rfl rfl) fun _ q3 => ?_;clear q2
  refine wpList_nil ?_
  go_upto_region 1 with fail
  refine wp_region_lit ?_
  refine q3.t (.slice a l.length c) (ex_move rfl (q3.e (j := 0) rfl)) fun _ q4 => ?_;clear q3
  refine vcallP (want_none rfl) (ex_call rfl (by simp only [List.map_toArray, List.map_cons, List.map_nil, (q4.e (j := 8) rfl), evc] <;> rfl) rfl) (lent_any l a c w2 (h.on c2 (Nat.le_refl _)) hb) rfl q4.z (by decide) ?_
  rintro e w3 ⟨a3, c3, rfl, hL3, bw3⟩
  refine ⟨_, rfl, q4.k fun _ q5 => ?_⟩;clear q4
  have c3w : Below w.heap.size w w3 := c2.trans (bw3.mono (by omega))
  replace BX := BX.later bw3
  replace BY := BY.later bw3
  have h3 := h.on c3w (Nat.le_refl _)
  refine q5.t (.slice a3 l.length c3) (ex_assign rfl (q5.e (j := 9) rfl)) fun _ q6 => ?_;clear q5
  have q7 := (((((Rp.nil q6.z).cons (q6.a 0 rfl)).cons (q6.a 4 rfl)).cons (q6.a 5 rfl)).cons (q6.a 7 rfl))
  clear q6
  refine wpList_nil ?_
  go_upto_region 2 with fail
  refine vq_start (C := fun v => Below w3.heap.size w3 v) (by kernel_rfl) (by kernel_rfl) (Below.refl _ _).drew ?_
  have hb2 : l.length ≤ 140737488355328 := by omega
  refine q7.q (.slice a3 l.length c3) (fun v hv => ex_move rfl (q7.e (j := 7) rfl)) fun _ q8 => ?_;clear q7
  refine vq_call18 (true) (.int .i64 (kchk l)) (want_none rfl) (fun hc v hv => ex_call rfl (by simp only [List.map_toArray, List.map_cons, List.map_nil, (q8.e (j := 10) rfl), evc] <;> rfl) rfl) (fun hc v hv => bel18 hv (check18_any l a3 c3 v (hL3.later hv).sl hfx) hv.size) rfl q8.z (by decide) (q8.k fun _ q9 => ?_);clear q8
  refine q9.q (.slice a l.length c) (fun v hv => ex_move rfl (q9.e (j := 0) rfl)) fun _ q10 => ?_;clear q9
  refine vq_call18 (true) (.int .i64 (kchk l)) (want_none rfl) (fun hc v hv => ex_call rfl (by simp only [List.map_toArray, List.map_cons, List.map_nil, (q10.e (j := 12) rfl), evc] <;> rfl) rfl) (fun hc v hv => bel18 hv (refCheck18 l a c v (h3.later hv) hfx hb2) hv.size) rfl q10.z (by decide) (q10.k fun _ q11 => ?_);clear q10
  refine q11.q (.bool true) (fun v hv => ex_bin rfl (q11.e (j := 11) rfl) (q11.e (j := 13) rfl) (eqlSe _ _ _ _)) fun _ q12 => ?_;clear q11
  refine q12.q (.bool true) (fun v hv => ex_move rfl (q12.e (j := 14) rfl)) fun _ q13 => ?_;clear q12
  refine vq (true) (x.val) (wantT18 rfl rfl (q13.a 15 rfl)) (fun hc v hv => ex_ld rfl (q13.e (j := 4) rfl) (BX.later hv).ldK) rfl q13.z (by decide) (q13.k fun _ q14 => ?_);clear q13
  refine vq (true) (y.val) (wantT18 rfl rfl (q14.a 15 rfl)) (fun hc v hv => ex_ld rfl (q14.e (j := 5) rfl) (BY.later hv).ldK) rfl q14.z (by decide) (q14.k fun _ q15 => ?_);clear q14
  refine vq_call18 (true) (.bool (prcK x y)) (wantT18 rfl rfl (q15.a 15 rfl)) (fun hc v hv => ex_call rfl (by simp only [List.map_toArray, List.map_cons, List.map_nil, (q15.e (j := 16) rfl), (q15.e (j := 17) rfl), evc] <;> rfl) rfl) (fun hc v hv => bel18 hv (precedes_any x y v) hv.size) rfl q15.z (by decide) (q15.k fun _ q16 => ?_);clear q15
  refine vq (true) (x.val) (wantT18 rfl rfl (q16.a 15 rfl)) (fun hc v hv => ex_ld rfl (q16.e (j := 4) rfl) (BX.later hv).ldK) rfl q16.z (by decide) (q16.k fun _ q17 => ?_);clear q16
  refine vq (true) (y.val) (wantT18 rfl rfl (q17.a 15 rfl)) (fun hc v hv => ex_ld rfl (q17.e (j := 5) rfl) (BY.later hv).ldK) rfl q17.z (by decide) (q17.k fun _ q18 => ?_);clear q17
  refine vq_call18 (true) (.bool (prcK x y)) (wantT18 rfl rfl (q18.a 15 rfl)) (fun hc v hv => ex_call rfl (by simp only [List.map_toArray, List.map_cons, List.map_nil, (q18.e (j := 19) rfl), (q18.e (j := 20) rfl), evc] <;> rfl) rfl) (fun hc v hv => bel18 hv (refPrec18 x y v) hv.size) rfl q18.z (by decide) (q18.k fun _ q19 => ?_);clear q18
  refine vq (true) (.bool true) (wantT18 rfl rfl (q19.a 15 rfl)) (fun hc v hv => ex_bin rfl (q19.e (j := 18) rfl) (q19.e (j := 21) rfl) (eqlBs _ _ _ _)) rfl q19.z (by decide) (q19.k fun _ q20 => ?_);clear q19
  refine q20.q (.bool true) (fun v hv => ex_and (c := true) (b := true) (z := true) rfl (q20.a 15 rfl) (q20.a 22 rfl) rfl) fun _ q21 => ?_;clear q20
  refine q21.q (.bool true) (fun v hv => ex_move rfl (q21.e (j := 23) rfl)) fun _ q22 => ?_;clear q21
  refine vq (true) (.slice a3 l.length c3) (wantT18 rfl rfl (q22.a 24 rfl)) (fun hc v hv => ex_move rfl (q22.e (j := 7) rfl)) rfl q22.z (by decide) (q22.k fun _ q23 => ?_);clear q22
  refine vq (true) (.slice a l.length c) (wantT18 rfl rfl (q23.a 24 rfl)) (fun hc v hv => ex_move rfl (q23.e (j := 0) rfl)) rfl q23.z (by decide) (q23.k fun _ q24 => ?_);clear q23
  refine vq_call18 (true) (.bool true) (wantT18 rfl rfl (q24.a 24 rfl)) (fun hc v hv => ex_call rfl (by simp only [List.map_toArray, List.map_cons, List.map_nil, (q24.e (j := 25) rfl), (q24.e (j := 26) rfl), evc] <;> rfl) rfl) (fun hc v hv => bel18 hv (kept18 _ l a3 a c3 c v (hL3.later hv) (h3.later hv) hb2) hv.size) rfl q24.z (by decide) (q24.k fun _ q25 => ?_);clear q24
  refine q25.q (.bool true) (fun v hv => ex_and (c := true) (b := true) (z := true) rfl (q25.a 24 rfl) (q25.a 27 rfl) rfl) fun _ q26 => ?_;clear q25
  refine q26.q (.bool true) (fun v hv => ex_move rfl (q26.e (j := 28) rfl)) fun _ q27 => ?_;clear q26
  refine vq_call18 true (.bool true) (wantT18 rfl rfl (q27.a 29 rfl)) (fun hc v hv => ex_call (args := #[]) rfl (by simp) rfl) (fun hc v hv => bel18 hv (works18_any v) hv.size) rfl q27.z (by decide) (q27.k fun _ q28 => ?_);clear q27
  refine q28.q (.bool true) (fun v hv => ex_and (c := true) (b := true) (z := true) rfl (q28.a 29 rfl) (q28.a 30 rfl) rfl) fun _ q29 => ?_;clear q28
  refine q29.q (.bool true) (fun v hv => ex_assign rfl (q29.e (j := 31) rfl)) fun _ q30 => ?_;clear q29
  refine vq_nil (fun x1 hx1 => ?_)
  go_wp2
  refine bodyPost_ret (results_tmp rfl _ _ _) rfl ⟨?_, c3w.trans (hx1.mono c3w.size)⟩
  rw [getD_of (q30.a 6 rfl)]
  rfl
theorem checks_came18 (a : Option Addr) (n c : Nat) (x y : Kl) (W : World) (h : CameKl W a n c) : Calls Try.prog 4 #[.slice a n c, x.val, y.val] W fun e w' => e = .returned (.bool true) ∧ Below W.heap.size W w' := by
  obtain ⟨P, h1, h2, h3⟩ := h
  have hl := h1.len
  subst hl
  exact checks18 P a c x y W h1 h2 h3

end Go.Proofs.Ytcopbidplblokaa
