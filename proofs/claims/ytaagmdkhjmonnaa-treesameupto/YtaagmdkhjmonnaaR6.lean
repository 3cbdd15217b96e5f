import Derived.Test.YtaagmdkhjmonnaaR5
namespace Go.Proofs.Ytaagmdkhjmonnaa
open Go.RowKit Go.Maps
open Classical
set_option linter.unusedVariables false
set_option linter.unusedSimpArgs false

theorem eqHZ (x y : Operand) (h k : Hs) (w : World) : (do eqGuard .eql 24 x y h.val k.val; binOp .eql 24 h.val k.val : Sem Value).run Try.prog w = .ok (.bool (decide (h.v = k.v))) w := eqlH x y h.p k.p w
theorem neHZ (x y : Operand) (h k : Hs) (w : World) : (do eqGuard .neq 24 x y h.val k.val; binOp .neq 24 h.val k.val : Sem Value).run Try.prog w = .ok (.bool (!decide (h.v = k.v))) w := neqH x y h.p k.p w
theorem resTH {fn : Func} {j k : Tmp} {x : Value} {h : Hs} {q : Nat} {T : TypeId} {tmps : Array Value} {w : World} (hf : fn.results = #[.tmp j, .cell k 24]) (hj : tmps[j]? = some (gw true x)) (hk : tmps[k]? = some (gw true (.pointer (some ⟨q, 0, none⟩)))) (hb : BB w q T h.cs) : (results fn tmps).run Try.prog w = .ok (.tuple #[x, h.val]) w := by
  have := run_loadVar_mid (P := Try.prog) w q 0 24 h.cs _ (fun j v hv => by rw [Nat.zero_add]; rw [hb.cell]; exact hv) Try.underlying24 rfl (by rw [h.len]; exact i32h)
  have e1 : tmps.getD j undef = x := getD_of hj
  have e2 : tmps.getD k undef = .pointer (some ⟨q, 0, none⟩) := getD_of hk
  simp only [results, hf]
  simp only [Array.getD_eq_getD_getElem?] at e1 e2
  have ev : h.val = .agg h.cs.toArray := rfl
  rw [ev]
  clear ev hb
  generalize h.cs.toArray = A at *
  simp [Sem.run_bind, Result.andThen, e1, e2, asAddr, this]
  first | done | rfl
theorem resHH {fn : Func} {j k : Tmp} {h1 h2 : Hs} {q1 q2 : Nat} {T : TypeId} {tmps : Array Value} {w : World} (hf : fn.results = #[.cell j 24, .cell k 24]) (hj : tmps[j]? = some (gw true (.pointer (some ⟨q1, 0, none⟩)))) (hk : tmps[k]? = some (gw true (.pointer (some ⟨q2, 0, none⟩)))) (hb1 : BB w q1 T h1.cs) (hb2 : BB w q2 T h2.cs) : (results fn tmps).run Try.prog w = .ok (.tuple #[h1.val, h2.val]) w := by
  have l1 := run_loadVar_mid (P := Try.prog) w q1 0 24 h1.cs _ (fun j v hv => by rw [Nat.zero_add]; rw [hb1.cell]; exact hv) Try.underlying24 rfl (by rw [h1.len]; exact i32h)
  have l2 := run_loadVar_mid (P := Try.prog) w q2 0 24 h2.cs _ (fun j v hv => by rw [Nat.zero_add]; rw [hb2.cell]; exact hv) Try.underlying24 rfl (by rw [h2.len]; exact i32h)
  have e1 : tmps.getD j undef = .pointer (some ⟨q1, 0, none⟩) := getD_of hj
  have e2 : tmps.getD k undef = .pointer (some ⟨q2, 0, none⟩) := getD_of hk
  simp only [results, hf]
  simp only [Array.getD_eq_getD_getElem?] at e1 e2
  have ev1 : h1.val = .agg h1.cs.toArray := rfl
  have ev2 : h2.val = .agg h2.cs.toArray := rfl
  rw [ev1, ev2]
  clear ev1 ev2 hb1 hb2
  generalize h1.cs.toArray = A1 at *
  generalize h2.cs.toArray = A2 at *
  simp [Sem.run_bind, Result.andThen, e1, e2, asAddr, l1, l2]
  first | done | rfl
set_option maxRecDepth 100000 in
set_option maxHeartbeats 2000000 in
theorem parted20 (P : List Hs) (a : Option Addr) (n c : Nat) (w : World) (h : SlY yH w a n c P) (hn : 1 ≤ n) (hn2 : n ≤ 9223372036854775807) :
    Calls Try.prog 86 #[.slice a n c] w fun e w' => ∃ x, e = .returned (.tuple #[.slice a (n - 1) c, x.val]) ∧ x = P.getD (P.length - 1) zH ∧ SlY yH w' a n c P ∧ Below w.heap.size w w' := by
  go_enter Try.func86, Try.ntmps86
  go_upto_region 0 with fail
  refine wp_region_lit ?_
  refine vl_gen (fun T => Rp T 15 [(0, gw true (.slice a n c))]) ((Rp.nil rfl).cons rfl) (fun Z0 q0 => ?_)
  have hln := h.len
  have hcap := h.cap
  obtain ⟨q, o, rfl, hq, hl⟩ := h.place (by rintro rfl; simp at hln; omega)
  obtain ⟨x, hx⟩ : ∃ x, P[n - 1]? = some x := ⟨_, List.getElem?_eq_getElem (by omega)⟩
  have hxe : P.getD (P.length - 1) zH = x := by rw [hln, List.getD_eq_getElem?_getD, hx]; rfl
  have HX := hide hxe
  clear hxe
  refine q0.t (.slice none 0 0) (ex_assign rfl rfl) fun _ q1 => ?_;clear q0
  obtain ⟨w1, hw1⟩ : ∃ y, y = w.alloc (.cells (zH.cs).toArray 24) := ⟨_, rfl⟩
  refine vw (.pointer (some ⟨w.heap.size, 0, none⟩)) w1 (want_none rfl) (ex_al rfl (by rw [hw1]; exact alH _)) rfl q1.z (by decide) (q1.k fun _ q2 => ?_);clear q1
  have Bw1 : BB w1 w.heap.size 24 (zH.cs) := by rw [hw1]; exact BB.new _ _ _
  have bw1 : Below w.heap.size w w1 := by rw [hw1]; exact (Below.refl _ _).alloc (Nat.le_refl _) _
  have zw1 : w1.heap.size = w.heap.size + 1 := by rw [hw1]; exact World.size_alloc _ _
  clear hw1
  refine wpList_nil ?_
  go_upto_region 1 with fail
  refine wp_region_lit ?_
  refine q2.t (.slice (some ⟨q, o, none⟩) n c) (ex_move rfl (q2.e (j := 0) rfl)) fun _ q3 => ?_;clear q2
  refine q3.t (.int .i64 ((n : Nat) : Int)) (ex_lenG rfl rfl Try.underlying42 (q3.e (j := 5) rfl)) fun _ q4 => ?_;clear q3
  refine q4.t (.int .i64 ((n - 1 : Nat) : Int)) (ex_bin (Y := .int .i64 ((1 : Nat) : Int)) rfl (q4.e (j := 6) rfl) rfl (subP _ _ n 1 (by omega) (by omega) _)) fun _ q5 => ?_;clear q4
  refine q5.t (.int .i64 ((n - 1 : Nat) : Int)) (ex_assign rfl (q5.e (j := 7) rfl)) fun _ q6 => ?_;clear q5
  refine wpList_nil ?_
  go_upto_region 2 with fail
  refine vg_start (fun k => k == 8) (fun v => Below w1.heap.size w1 v) (by kernel_rfl) ?_
  have hy0 : Below w1.heap.size w1 w1.drew := (Below.refl _ _).drew
  have hzy0 : w1.drew.heap.size = w1.heap.size := rfl
  generalize w1.drew = y0 at *
  have hl1 : LieY yH w1 q o P := hl.upd (S := fun _ => False) (Upd.of_below bw1) hq id
  refine vg_takeW 0 true (.slice (some ⟨q, o, none⟩) n c) rfl (by kernel_rfl) (by kernel_rfl) (by kernel_rfl) (by kernel_rfl) (want_none rfl) (fun hc v => ex_move rfl (q6.e (j := 0) rfl)) rfl q6.z (by decide) (fun _ => hy0) (q6.k fun _ q7 => ?_);clear q6
  refine vg_takeW 1 true (.int .i64 ((n - 1 : Nat) : Int)) rfl (by kernel_rfl) (by kernel_rfl) (by kernel_rfl) (by kernel_rfl) (want_none rfl) (fun hc v => ex_move rfl (q7.e (j := 4) rfl)) rfl q7.z (by decide) (fun _ => hy0) (q7.k fun _ q8 => ?_);clear q7
  refine vg_takeW 2 true (.slice (some ⟨q, o, none⟩) (n - 1) c) rfl (by kernel_rfl) (by kernel_rfl) (by kernel_rfl) (by kernel_rfl) (want_none rfl) (fun hc v => ex_sl19 rfl (q8.e (j := 8) rfl) rfl (congrArg some (q8.e (j := 9) rfl)) rfl (slToH q o n c (n - 1) (by omega) hcap _)) rfl q8.z (by decide) (fun _ => hy0) (q8.k fun _ q9 => ?_);clear q8
  refine vg_takeW 3 true (.slice (some ⟨q, o, none⟩) n c) rfl (by kernel_rfl) (by kernel_rfl) (by kernel_rfl) (by kernel_rfl) (want_none rfl) (fun hc v => ex_move rfl (q9.e (j := 0) rfl)) rfl q9.z (by decide) (fun _ => hy0) (q9.k fun _ q10 => ?_);clear q9
  refine vg_takeW 4 true (.int .i64 ((n - 1 : Nat) : Int)) rfl (by kernel_rfl) (by kernel_rfl) (by kernel_rfl) (by kernel_rfl) (want_none rfl) (fun hc v => ex_move rfl (q10.e (j := 4) rfl)) rfl q10.z (by decide) (fun _ => hy0) (q10.k fun _ q11 => ?_);clear q10
  refine vg_takeW 5 true (.pointer (some ⟨q, o + (n - 1) * 32, none⟩)) rfl (by kernel_rfl) (by kernel_rfl) (by kernel_rfl) (by kernel_rfl) (want_none rfl) (fun hc v => ex_ix rfl (q11.e (j := 11) rfl) (q11.e (j := 12) rfl) (ixH q o n c (n - 1) (by omega) _)) rfl q11.z (by decide) (fun _ => hy0) (q11.k fun _ q12 => ?_);clear q11
  refine vg_take 6 true (x.val) rfl (by kernel_rfl) (by kernel_rfl) (by kernel_rfl) (by kernel_rfl) (by kernel_rfl) (by kernel_rfl) (want_none rfl) (fun hc v hv => ex_ld rfl (q12.e (j := 13) rfl) (ldH20 (hl1.upd (S := fun _ => False) (Upd.of_below hv) (by omega) id) hx)) rfl q12.z (by decide) hy0 (q12.k fun _ q13 => ?_);clear q12
  refine vg_takeW 7 true (.slice (some ⟨q, o, none⟩) (n - 1) c) rfl (by kernel_rfl) (by kernel_rfl) (by kernel_rfl) (by kernel_rfl) (want_none rfl) (fun hc v => ex_assign rfl (q13.e (j := 10) rfl)) rfl q13.z (by decide) (fun _ => hy0) (q13.k fun _ q14 => ?_);clear q13
  have Bh := Bw1.later hy0
  obtain ⟨w3, hw3⟩ : ∃ y, y = y0.setCells w.heap.size 0 (x).cs := ⟨_, rfl⟩
  refine vg_store 8 w3 rfl (by kernel_rfl) (by kernel_rfl) (want_none rfl) (ex_st rfl (q14.e (j := 3) rfl) (q14.e (j := 14) rfl) (by rw [hw3]; exact Bh.stH rfl _)) rfl ?_
  have Bw3 : BB w3 w.heap.size 24 (x).cs := by rw [hw3]; exact Bh.putH rfl _
  have uw3 : Upd (fun k => k = w.heap.size) y0 w3 := by rw [hw3]; exact upd18 _ _ _ _
  clear hw3
  refine vg_done (by kernel_rfl) ?_
  go_wp2
  refine bodyPost_ret (resTH rfl (q14.a 2 rfl) (q14.a 3 rfl) Bw3) rfl ?_
  exact ⟨_, rfl, by rw [HX.out], ((h.later bw1).later hy0).upd uw3 (fun z hz _ => by cases hz; show ¬ q = w.heap.size; omega), (bw1.trans (hy0.mono (by omega))).trans (bel_ge uw3 (by omega) (Nat.le_refl _))⟩

end Go.Proofs.Ytaagmdkhjmonnaa
