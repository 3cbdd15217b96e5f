import Derived.Test.YtomiifnhcojilaaS2
namespace Go.Proofs.Ytomiifnhcojilaa
open Go.RowKit Go.Maps
open Classical
set_option linter.unusedVariables false
set_option linter.unusedSimpArgs false

def yB9 : Lay Int := ⟨5, 73, 1, 1, fun x => [.int .u8 x], 0⟩
theorem kB9 : yB9.Ok := ⟨by decide, fun x => rfl, fun x u h => by
    simp [yB9] at h
    rw [h]; rfl, Try.underlying73, ⟨.int .u8 0, by kernel_rfl, rfl⟩⟩
theorem SlY.b9 {w : World} {a : Option Addr} {n c : Nat} {L : List Int} (h : SlY yB9 w a n c L) {j : Nat} (hj : j < L.length) : ∃ q o, a = some ⟨q, o, none⟩ ∧ q < w.heap.size ∧ w.cell? ⟨q, o + j, none⟩ = some (.int .u8 (L.getD j 0)) := by
  obtain ⟨q, o, ea, hq, hl⟩ := h.place (by rintro rfl; simp at hj)
  have hx := List.getElem?_eq_getElem hj
  have := hl j _ hx 0 _ rfl
  refine ⟨q, o, ea, hq, ?_⟩
  rw [List.getD_eq_getElem?_getD, hx]
  simpa [yB9] using this
theorem BB.u9 {w : World} {q : Nat} {T : TypeId} {L : List Int} (h : BB w q T (L.map uV)) {j : Nat} (hj : j < L.length) : w.cell? ⟨q, j, none⟩ = some (.int .u32 (L.getD j 0)) := by
  rw [h.cell, List.getElem?_map, List.getD_eq_getElem?_getD, List.getElem?_eq_getElem hj]
  rfl
theorem BB.v9 {w : World} {q : Nat} {T : TypeId} {L : List Int} (h : BB w q T (L.map bV)) {j : Nat} (hj : j < L.length) : w.cell? ⟨q, j, none⟩ = some (.int .u8 (L.getD j 0)) := by
  rw [h.cell, List.getElem?_map, List.getD_eq_getElem?_getD, List.getElem?_eq_getElem hj]
  rfl
theorem BB.setu {w : World} {q : Nat} {T : TypeId} {L : List Int} (h : BB w q T (L.map uV)) (j : Nat) (x : Int) : BB (w.setCell ⟨q, j, none⟩ (.int .u32 x)) q T ((L.set j x).map uV) := by
  have := h.set1 j (.int .u32 x)
  rw [show (L.map uV).set j (.int .u32 x) = (L.set j x).map uV from by rw [List.map_set]; rfl] at this
  exact this
theorem BB.setv {w : World} {q : Nat} {T : TypeId} {L : List Int} (h : BB w q T (L.map bV)) (j : Nat) (x : Int) : BB (w.setCell ⟨q, j, none⟩ (.int .u8 x)) q T ((L.set j x).map bV) := by
  have := h.set1 j (.int .u8 x)
  rw [show (L.map bV).set j (.int .u8 x) = (L.set j x).map bV from by rw [List.map_set]; rfl] at this
  exact this
theorem upd1 (w : World) (q j : Nat) (x : Value) : Upd (fun k => k = q) w (w.setCell ⟨q, j, none⟩ x) := (Upd.refl (fun k => k = q) _).setCell (p := ⟨q, j, none⟩) (.inl rfl) _
theorem ixA0 (q j n : Nat) (t e : TypeId) (hu : Try.prog.underlying t = some (.array n e)) (hs : (Try.prog.info? e).map (·.size) = some 1) (hj : j < n) (w : World) : (Instr.indexAt t (.pointer (some ⟨q, 0, none⟩)) (.int .i64 (j : Int))).run Try.prog w = .ok (.pointer (some ⟨q, j, none⟩)) w := by
  have := ixA q 0 j n t e hu hs hj w
  rwa [Nat.zero_add] at this
theorem ixB9 (q o n c j : Nat) (hj : j < n) (w : World) : (Instr.indexAt 73 (.slice (some ⟨q, o, none⟩) n c) (.int .i64 (j : Int))).run Try.prog w = .ok (.pointer (some ⟨q, o + j, none⟩)) w := by
  have h1 : (j : Int) < (n : Int) := by omega
  go_simp
theorem v_loopO {c : Code} {Q : Exit → Act → World → Prop} {T0 : Array Value} {w0 : World} (x N o : Nat) (I : Nat → Array Value → World → Prop) (hx : ∀ j T w, I j T w → T[x]? = some (gw true (.int .i64 ((j + o : Nat) : Int)))) (h0 : I 0 T0 w0)
    (round : ∀ j T w, j ≤ N → I j T w → c.wp Try.prog (Exit.then (fun a' w' => ∃ T', a' = ⟨T', []⟩ ∧ j + 1 ≤ N ∧ I (j + 1) T' w') Q) ⟨T, []⟩ w) : (Code.loop c).wp Try.prog Q ⟨T0, []⟩ w0 := by
  have sl : ∀ {j : Nat} {T : Array Value} {w : World}, I j T w → (intOf (T.getD x undef)).toNat = j + o := fun h => by
    rw [getD_of (hx _ _ _ h)]
    show (intOf (.int .i64 _)).toNat = _
    simp [intOf]
    omega
  refine wp_loop (fun a w => ∃ j T, a = ⟨T, []⟩ ∧ j ≤ N ∧ I j T w) (fun a w => N + o - (intOf (a.tmps.getD x undef)).toNat) ⟨0, T0, rfl, Nat.zero_le _, h0⟩ ?_
  rintro a w ⟨j, T, rfl, hj, hI⟩
  refine Code.wp_mono (fun e a' w' h => ?_) (round j T w hj hI)
  cases e with
  | normal =>
    obtain ⟨T', rfl, hj', hI'⟩ := h
    refine ⟨⟨j + 1, T', rfl, hj', hI'⟩, ?_⟩
    show N + o - (intOf (T'.getD x undef)).toNat < N + o - (intOf (T.getD x undef)).toNat
    rw [sl hI', sl hI]
    omega
  | _ => exact h
theorem len_uV (L : List Int) : (L.map uV).length = L.length := List.length_map _
theorem len_bV (L : List Int) : (L.map bV).length = L.length := List.length_map _
set_option maxRecDepth 100000 in
set_option maxHeartbeats 2000000 in
theorem rwords_any (w : World) :
    Calls Try.prog 107 #[] w fun e w' => e = .returned (.agg (kT9.map uV).toArray) ∧ Below w.heap.size w w' := by
  go_enter Try.func107, Try.ntmps107
  go_upto_region 0 with fail
  refine wp_region_lit ?_
  refine vl_gen (fun T => Rp T 2 []) (Rp.nil rfl) (fun Z0 q0 => ?_)
  obtain ⟨w1, hw1⟩ : ∃ y, y = w.alloc (.cells ((List.replicate 64 (0 : Int)).map uV).toArray 165) := ⟨_, rfl⟩
  refine vw (.pointer (some ⟨w.heap.size, 0, none⟩)) w1 (want_none rfl) (ex_al rfl (by rw [hw1]; exact al64 _)) rfl q0.z (by decide) (q0.k fun _ q1 => ?_);clear q0
  have B1 : BB w1 w.heap.size 165 ((List.replicate 64 (0 : Int)).map uV) := by rw [hw1]; exact BB.new _ _ _
  have b1 : Below w.heap.size w w1 := by rw [hw1]; exact (Below.refl _ _).alloc (Nat.le_refl _) _
  clear hw1
  have z1 := b1.size
  refine wpList_nil ?_
  go_upto_region 1 with fail
  refine wp_region_lit ?_
  refine q1.t (.agg (kT9.map uV).toArray) (ex_buildP18 (P := ((List.range 64).zip (kT9.map uV)).toArray) rfl (by simp only [List.map_toArray, List.map_cons, List.map_nil, evc]; kernel_rfl) (bdK _)) fun _ q2 => ?_;clear q1
  obtain ⟨w2, hw2⟩ : ∃ y, y = w1.setCells w.heap.size 0 (kT9.map uV) := ⟨_, rfl⟩
  refine vs w2 (want_none rfl) (ex_st rfl (q2.e (j := 0) rfl) (q2.e (j := 1) rfl) (by rw [hw2]; exact B1.st 165 _ rfl i64u (by kernel_rfl))) rfl ?_
  have B2 : BB w2 w.heap.size 165 (kT9.map uV) := by rw [hw2]; exact B1.whole _ rfl
  have b2 : Below w.heap.size w w2 := by rw [hw2]; exact b1.trans (bel_ge (upd18 _ _ _ _) b1.size (Nat.le_refl _))
  clear hw2
  refine wpList_nil ?_
  go_wp2
  exact B2.res rfl (q2.a 0 rfl) Try.underlying165 rfl i64u ⟨rfl, b2⟩
set_option maxRecDepth 100000 in
set_option maxHeartbeats 2000000 in
theorem first_any (w : World) :
    Calls Try.prog 93 #[] w fun e w' => e = .returned (.agg (iv.l.map uV).toArray) ∧ Below w.heap.size w w' := by
  go_enter Try.func93, Try.ntmps93
  go_upto_region 0 with fail
  refine wp_region_lit ?_
  refine vl_gen (fun T => Rp T 2 []) (Rp.nil rfl) (fun Z0 q0 => ?_)
  obtain ⟨w1, hw1⟩ : ∃ y, y = w.alloc (.cells ((List.replicate 8 (0 : Int)).map uV).toArray 110) := ⟨_, rfl⟩
  refine vw (.pointer (some ⟨w.heap.size, 0, none⟩)) w1 (want_none rfl) (ex_al rfl (by rw [hw1]; exact alS8 _)) rfl q0.z (by decide) (q0.k fun _ q1 => ?_);clear q0
  have B1 : BB w1 w.heap.size 110 ((List.replicate 8 (0 : Int)).map uV) := by rw [hw1]; exact BB.new _ _ _
  have b1 : Below w.heap.size w w1 := by rw [hw1]; exact (Below.refl _ _).alloc (Nat.le_refl _) _
  clear hw1
  have z1 := b1.size
  refine wpList_nil ?_
  go_upto_region 1 with fail
  refine wp_region_lit ?_
  refine q1.t (.agg (iv.l.map uV).toArray) (ex_buildP18 (P := ((List.range 8).zip (iv.l.map uV)).toArray) rfl (by simp only [List.map_toArray, List.map_cons, List.map_nil, evc]; kernel_rfl) (bdI _)) fun _ q2 => ?_;clear q1
  obtain ⟨w2, hw2⟩ : ∃ y, y = w1.setCells w.heap.size 0 (iv.l.map uV) := ⟨_, rfl⟩
  refine vs w2 (want_none rfl) (ex_st rfl (q2.e (j := 0) rfl) (q2.e (j := 1) rfl) (by rw [hw2]; exact B1.st 110 _ rfl i8s (by kernel_rfl))) rfl ?_
  have B2 : BB w2 w.heap.size 110 (iv.l.map uV) := by rw [hw2]; exact B1.whole _ rfl
  have b2 : Below w.heap.size w w2 := by rw [hw2]; exact b1.trans (bel_ge (upd18 _ _ _ _) b1.size (Nat.le_refl _))
  clear hw2
  refine wpList_nil ?_
  go_wp2
  exact B2.res rfl (q2.a 0 rfl) Try.underlying110 rfl i8s ⟨rfl, b2⟩
set_option maxRecDepth 100000 in
set_option maxHeartbeats 2000000 in
theorem fresh_any (w : World) :
    Calls Try.prog 73 #[] w fun e w' => e = .returned (.agg (hC true iv.l (List.replicate 64 0) 0).toArray) ∧ Below w.heap.size w w' := by
  go_enter Try.func73, Try.ntmps73
  go_upto_region 0 with fail
  refine wp_region_lit ?_
  refine vl_gen (fun T => Rp T 3 []) (Rp.nil rfl) (fun Z0 q0 => ?_)
  obtain ⟨w1, hw1⟩ : ∃ y, y = w.alloc (.cells (hC false (List.replicate 8 0) (List.replicate 64 0) 0).toArray 113) := ⟨_, rfl⟩
  refine vw (.pointer (some ⟨w.heap.size, 0, none⟩)) w1 (want_none rfl) (ex_al rfl (by rw [hw1]; exact alHs _)) rfl q0.z (by decide) (q0.k fun _ q1 => ?_);clear q0
  have B1 : BB w1 w.heap.size 113 (hC false (List.replicate 8 0) (List.replicate 64 0) 0) := by rw [hw1]; exact BB.new _ _ _
  have b1 : Below w.heap.size w w1 := by rw [hw1]; exact (Below.refl _ _).alloc (Nat.le_refl _) _
  clear hw1
  have z1 := b1.size
  refine wpList_nil ?_
  go_upto_region 1 with fail
  refine wp_region_lit ?_
  refine vcallP (want_none rfl) (ex_call (args := #[]) rfl (by simp) rfl) (first_any w1) rfl q1.z (by decide) ?_
  rintro e w2 ⟨rfl, c2⟩
  refine ⟨_, rfl, q1.k fun _ q2 => ?_⟩;clear q1
  have b2 : Below w.heap.size w w2 := b1.trans (c2.mono z1)
  have B2 := B1.later c2
  clear B1
  refine q2.t (.agg (hC true iv.l (List.replicate 64 0) 0).toArray) (ex_buildP18 (P := #[(0, .bool true), (1, .agg (iv.l.map uV).toArray)]) rfl (by simp only [List.map_toArray, List.map_cons, List.map_nil, q2.e (j := 1) rfl, evc]) (bdH _)) fun _ q3 => ?_;clear q2
  obtain ⟨w3, hw3⟩ : ∃ y, y = w2.setCells w.heap.size 0 (hC true iv.l (List.replicate 64 0) 0) := ⟨_, rfl⟩
  refine vs w3 (want_none rfl) (ex_st rfl (q3.e (j := 0) rfl) (q3.e (j := 2) rfl) (by rw [hw3]; exact B2.st 113 _ rfl i74 (by kernel_rfl))) rfl ?_
  have B3 : BB w3 w.heap.size 113 (hC true iv.l (List.replicate 64 0) 0) := by rw [hw3]; exact B2.whole _ rfl
  have b3 : Below w.heap.size w w3 := by rw [hw3]; exact b2.trans (bel_ge (upd18 _ _ _ _) b2.size (Nat.le_refl _))
  clear hw3
  refine wpList_nil ?_
  go_wp2
  exact B3.res rfl (q3.a 0 rfl) Try.underlying113 rfl i74 ⟨rfl, b3⟩
set_option maxRecDepth 100000 in
set_option maxHeartbeats 2000000 in
theorem wordsOf_any (b : List Int) (a : Option Addr) (c : Nat) (w : World) (h : SlY yB9 w a 64 c b) (hb : b.length = 64) :
    Calls Try.prog 106 #[.slice a 64 c] w fun e w' => e = .returned (.agg ((wrds b).map uV).toArray) ∧ Below w.heap.size w w' := by
  go_enter Try.func106, Try.ntmps106
  go_upto_region 0 with fail
  refine wp_region_lit ?_
  refine vl_gen (fun T => Rp T 72 [(0, gw true (.slice a 64 c))]) ((Rp.nil rfl).cons rfl) (fun Z0 q0 => ?_)
  obtain ⟨w1, hw1⟩ : ∃ y, y = w.alloc (.cells ((List.replicate 64 (0 : Int)).map uV).toArray 165) := ⟨_, rfl⟩
  refine vw (.pointer (some ⟨w.heap.size, 0, none⟩)) w1 (want_none rfl) (ex_al rfl (by rw [hw1]; exact al64 _)) rfl q0.z (by decide) (q0.k fun _ q1 => ?_);clear q0
  have Bw1 : BB w1 w.heap.size 165 ((List.replicate 64 (0 : Int)).map uV) := by rw [hw1]; exact BB.new _ _ _
  have bw1 : Below w.heap.size w w1 := by rw [hw1]; exact (Below.refl _ _).alloc (Nat.le_refl _) _
  have zw1 : w1.heap.size = w.heap.size + 1 := by rw [hw1]; exact World.size_alloc _ _
  clear hw1
  refine wpList_nil ?_
  go_upto_region 1 with fail
  refine wp_region_lit ?_
  obtain ⟨w2, hw2⟩ : ∃ y, y = w1.alloc (.cells ((List.replicate 64 (0 : Int)).map uV).toArray 165) := ⟨_, rfl⟩
  refine vw (.pointer (some ⟨w1.heap.size, 0, none⟩)) w2 (want_none rfl) (ex_al rfl (by rw [hw2]; exact al64 _)) rfl q1.z (by decide) (q1.k fun _ q2 => ?_);clear q1
  have Bw2 : BB w2 w1.heap.size 165 ((List.replicate 64 (0 : Int)).map uV) := by rw [hw2]; exact BB.new _ _ _
  have bw2 : Below w1.heap.size w1 w2 := by rw [hw2]; exact (Below.refl _ _).alloc (Nat.le_refl _) _
  have zw2 : w2.heap.size = w1.heap.size + 1 := by rw [hw2]; exact World.size_alloc _ _
  clear hw2
  refine wpList_nil ?_
  go_upto_region 2 with fail
  refine wp_region_lit ?_
  refine q2.t (.int .i64 ((0 : Nat) : Int)) (ex_move rfl rfl) fun _ q3 => ?_;clear q2
  have q4 := (((((Rp.nil q3.z).cons (q3.a 0 rfl)).cons (q3.a 2 rfl)).cons (q3.a 3 rfl)).cons (q3.a 10 rfl))
  clear q3
  refine wpList_nil ?_
  go_upto_region 3 with fail
  have bw2 : Below w.heap.size w w2 := bw1.trans (bw2.mono (by omega))
  have Bq := Bw1.later ‹Below w1.heap.size w1 w2›
  refine v_loop 10 64 (fun j T wr => Rp T 72 [(10, gw true (.int .i64 ((j : Nat) : Int))), (3, gw true (.pointer (some ⟨w1.heap.size, 0, none⟩))), (2, gw true (.pointer (some ⟨w.heap.size, 0, none⟩))), (0, gw true (.slice a 64 c))] ∧ Hid (BB wr w1.heap.size 165 ((wS b j).map uV) ∧ BB wr w.heap.size 165 ((List.replicate 64 (0 : Int)).map uV) ∧ Below w.heap.size w wr)) (fun j T w h => h.1.a 10 rfl) ⟨q4, Bw2, Bq, bw2⟩ ?_
  clear q4
  intro j T wr hj hh
  obtain ⟨q100, HJ⟩ := hh
  obtain ⟨B3, B2, br⟩ := HJ.out
  clear HJ Bw2 Bq
  have zr := br.size
  by_cases hit : j < 64
  · go_upto_region 3 with fail
    refine wp_region_lit ?_
    refine q100.t (.bool true) (ex_bin rfl (q100.e (j := 10) rfl) rfl (ltT _ _ hit _)) fun _ q101 => ?_;clear q100
    refine wpList_nil ?_
    go_upto_region 4 with fail
    refine wp_cond_true (q101.e (j := 11) rfl) ?_
    go_upto_region 4 with fail
    refine wp_region_lit ?_
    refine q101.t (.int .i64 ((j : Nat) : Int)) (ex_move rfl (q101.e (j := 10) rfl)) fun _ q102 => ?_;clear q101
    refine q102.t (.int .i64 ((j : Nat) : Int)) (ex_assign rfl (q102.e (j := 12) rfl)) fun _ q103 => ?_;clear q102
    refine wpList_nil ?_
    go_upto_region 5 with fail
    refine vg_start (fun k => k == 14) (fun v => v = wr.drew) (by kernel_rfl) ?_
    have hd : Below wr.heap.size wr wr.drew := (Below.refl _ _).drew
    have hzd : wr.drew.heap.size = wr.heap.size := rfl
    generalize wr.drew = d at *
    have B3d := B3.later hd
    have B2d := B2.later hd
    have hsd : SlY yB9 d a 64 c b := (h.on br (Nat.le_refl _)).later hd
    obtain ⟨qa, oa, hqa, hqal, hca⟩ := hsd.b9 (j := j) (by omega)
    have hj4 : j / 4 < 64 := by omega
    have c3 := B3d.u9 (j := j / 4) (by rw [wS_len]; exact hj4)
    refine vg_takeW 0 true (.int .i64 ((j : Nat) : Int)) rfl (by kernel_rfl) (by kernel_rfl) (by kernel_rfl) (by kernel_rfl) (want_none rfl) (fun hc v => ex_move rfl (q103.e (j := 4) rfl)) rfl q103.z (by decide) (fun _ => rfl) (q103.k fun _ q104 => ?_);clear q103
    refine vg_takeW 1 true (.int .i64 ((j / 4 : Nat) : Int)) rfl (by kernel_rfl) (by kernel_rfl) (by kernel_rfl) (by kernel_rfl) (want_none rfl) (fun hc v => ex_bin rfl (q104.e (j := 13) rfl) rfl (quoC _ _ j 4 (by decide) (by omega) _)) rfl q104.z (by decide) (fun _ => rfl) (q104.k fun _ q105 => ?_);clear q104
    refine vg_takeW 2 true (.int .i64 ((j : Nat) : Int)) rfl (by kernel_rfl) (by kernel_rfl) (by kernel_rfl) (by kernel_rfl) (want_none rfl) (fun hc v => ex_move rfl (q105.e (j := 4) rfl)) rfl q105.z (by decide) (fun _ => rfl) (q105.k fun _ q106 => ?_);clear q105
    refine vg_takeW 3 true (.int .i64 ((j / 4 : Nat) : Int)) rfl (by kernel_rfl) (by kernel_rfl) (by kernel_rfl) (by kernel_rfl) (want_none rfl) (fun hc v => ex_bin rfl (q106.e (j := 15) rfl) rfl (quoC _ _ j 4 (by decide) (by omega) _)) rfl q106.z (by decide) (fun _ => rfl) (q106.k fun _ q107 => ?_);clear q106
    refine vg_takeW 4 true (.pointer (some ⟨w1.heap.size, j / 4, none⟩)) rfl (by kernel_rfl) (by kernel_rfl) (by kernel_rfl) (by kernel_rfl) (want_none rfl) (fun hc v => ex_ix rfl (q107.e (j := 3) rfl) (q107.e (j := 16) rfl) (ixA0 w1.heap.size (j / 4) 64 165 103 Try.underlying165 i1u hj4 _)) rfl q107.z (by decide) (fun _ => rfl) (q107.k fun _ q108 => ?_);clear q107
    refine vg_take 5 true (.int .u32 ((wS b j).getD (j / 4) 0)) rfl (by kernel_rfl) (by kernel_rfl) (by kernel_rfl) (by kernel_rfl) (by kernel_rfl) (by kernel_rfl) (want_none rfl) (fun hc v hv => by subst hv; exact ex_ld rfl (q108.e (j := 17) rfl) (ldU c3)) rfl q108.z (by decide) rfl (q108.k fun _ q109 => ?_);clear q108
    refine vg_takeW 6 true (.int .u32 (IntKind.u32.wrap ((wS b j).getD (j / 4) 0 * 2 ^ 8))) rfl (by kernel_rfl) (by kernel_rfl) (by kernel_rfl) (by kernel_rfl) (want_none rfl) (fun hc v => ex_bin rfl (q109.e (j := 18) rfl) rfl (shlU _ _ _ 8 (by decide) _)) rfl q109.z (by decide) (fun _ => rfl) (q109.k fun _ q110 => ?_);clear q109
    refine vg_takeW 7 true (.slice a 64 c) rfl (by kernel_rfl) (by kernel_rfl) (by kernel_rfl) (by kernel_rfl) (want_none rfl) (fun hc v => ex_move rfl (q110.e (j := 0) rfl)) rfl q110.z (by decide) (fun _ => rfl) (q110.k fun _ q111 => ?_);clear q110
    refine vg_takeW 8 true (.int .i64 ((j : Nat) : Int)) rfl (by kernel_rfl) (by kernel_rfl) (by kernel_rfl) (by kernel_rfl) (want_none rfl) (fun hc v => ex_move rfl (q111.e (j := 4) rfl)) rfl q111.z (by decide) (fun _ => rfl) (q111.k fun _ q112 => ?_);clear q111
    refine vg_takeW 9 true (.pointer (some ⟨qa, oa + j, none⟩)) rfl (by kernel_rfl) (by kernel_rfl) (by kernel_rfl) (by kernel_rfl) (want_none rfl) (fun hc v => ex_ix rfl (q112.e (j := 20) rfl) (q112.e (j := 21) rfl) (by rw [hqa]; exact ixB9 qa oa 64 c j hit _)) rfl q112.z (by decide) (fun _ => rfl) (q112.k fun _ q113 => ?_);clear q112
    refine vg_take 10 true (.int .u8 (b.getD j 0)) rfl (by kernel_rfl) (by kernel_rfl) (by kernel_rfl) (by kernel_rfl) (by kernel_rfl) (by kernel_rfl) (want_none rfl) (fun hc v hv => by subst hv; exact ex_ld rfl (q113.e (j := 22) rfl) (ld8 hca)) rfl q113.z (by decide) rfl (q113.k fun _ q114 => ?_);clear q113
    refine vg_takeW 11 true (.int .u32 (IntKind.u32.wrap (b.getD j 0))) rfl (by kernel_rfl) (by kernel_rfl) (by kernel_rfl) (by kernel_rfl) (want_none rfl) (fun hc v => ex_cv19 rfl (q114.e (j := 23) rfl) (cv8_32 _ _)) rfl q114.z (by decide) (fun _ => rfl) (q114.k fun _ q115 => ?_);clear q114
    refine vg_takeW 12 true (.int .u32 (bits .or .u32 (IntKind.u32.wrap ((wS b j).getD (j / 4) 0 * 2 ^ 8)) (IntKind.u32.wrap (b.getD j 0)))) rfl (by kernel_rfl) (by kernel_rfl) (by kernel_rfl) (by kernel_rfl) (want_none rfl) (fun hc v => ex_bin rfl (q115.e (j := 19) rfl) (q115.e (j := 24) rfl) (orU _ _ _ _ _)) rfl q115.z (by decide) (fun _ => rfl) (q115.k fun _ q116 => ?_);clear q115
    refine vg_takeW 13 true (.pointer (some ⟨w1.heap.size, j / 4, none⟩)) rfl (by kernel_rfl) (by kernel_rfl) (by kernel_rfl) (by kernel_rfl) (want_none rfl) (fun hc v => ex_ix rfl (q116.e (j := 3) rfl) (q116.e (j := 14) rfl) (ixA0 w1.heap.size (j / 4) 64 165 103 Try.underlying165 i1u hj4 _)) rfl q116.z (by decide) (fun _ => rfl) (q116.k fun _ q117 => ?_);clear q116
    obtain ⟨d2, hd2⟩ : ∃ y, y = d.setCell ⟨w1.heap.size, j / 4, none⟩ (.int .u32 (bits .or .u32 (IntKind.u32.wrap ((wS b j).getD (j / 4) 0 * 2 ^ 8)) (IntKind.u32.wrap (b.getD j 0)))) := ⟨_, rfl⟩
    refine vg_store 14 d2 rfl (by kernel_rfl) (by kernel_rfl) (want_none rfl) (ex_st rfl (q117.e (j := 26) rfl) (q117.e (j := 25) rfl) (by rw [hd2]; exact stU c3 (B3d.free _))) rfl ?_
    have B3e : BB d2 w1.heap.size 165 ((wS b (j + 1)).map uV) := by rw [hd2]; exact B3d.setu _ _
    have ue : Upd (fun k => k = w1.heap.size) d d2 := by rw [hd2]; exact upd1 _ _ _ _
    have B2e := B2d.upd ue (by omega)
    have be : Below w.heap.size w d2 := (br.trans (hd.mono zr)).trans (bel_ge ue (by omega) (by omega))
    clear hd2
    refine vg_done (by kernel_rfl) ?_
    have q118 := (((((Rp.nil q117.z).cons (q117.a 0 rfl)).cons (q117.a 2 rfl)).cons (q117.a 3 rfl)).cons (q117.a 10 rfl))
    clear q117
    go_upto_region 6 with fail
    refine wp_region_lit ?_
    refine q118.t (.int .i64 ((j + 1 : Nat) : Int)) (ex_bin rfl (q118.e (j := 10) rfl) rfl (add1C _ _ j (by omega) _)) fun _ q119 => ?_;clear q118
    refine q119.t (.int .i64 ((j + 1 : Nat) : Int)) (ex_move rfl (q119.e (j := 27) rfl)) fun _ q120 => ?_;clear q119
    have q121 := (((((Rp.nil q120.z).cons (q120.a 0 rfl)).cons (q120.a 2 rfl)).cons (q120.a 3 rfl)).cons (q120.a 10 rfl))
    clear q120
    refine wpList_nil ?_
    exact ⟨_, rfl, hit, q121, B3e, B2e, be⟩
  · obtain rfl : j = 64 := by omega
    go_upto_region 3 with fail
    refine wp_region_lit ?_
    refine q100.t (.bool false) (ex_bin rfl (q100.e (j := 10) rfl) rfl (ltF _ _ hit _)) fun _ q101 => ?_;clear q100
    refine wpList_nil ?_
    go_upto_region 7 with fail
    refine wp_cond_false (q101.e (j := 11) rfl) ?_
    go_upto_region 7 with fail
    refine wp_region_lit ?_
    refine q101.t (.int .i64 ((0 + 16 : Nat) : Int)) (ex_assign rfl rfl) fun _ q102 => ?_;clear q101
    have q103 := (((((Rp.nil q102.z).cons (q102.a 0 rfl)).cons (q102.a 2 rfl)).cons (q102.a 3 rfl)).cons (q102.a 5 rfl))
    clear q102
    refine wpList_nil ?_
    go_upto_region 8 with fail
    refine v_loopO 5 48 16 (fun j T wr => Rp T 72 [(5, gw true (.int .i64 ((j + 16 : Nat) : Int))), (3, gw true (.pointer (some ⟨w1.heap.size, 0, none⟩))), (2, gw true (.pointer (some ⟨w.heap.size, 0, none⟩))), (0, gw true (.slice a 64 c))] ∧ Hid (BB wr w1.heap.size 165 ((wT b j).map uV) ∧ BB wr w.heap.size 165 ((List.replicate 64 (0 : Int)).map uV) ∧ Below w.heap.size w wr)) (fun j T w h => h.1.a 5 rfl) ⟨q103, B3, B2, br⟩ ?_
    clear q103 B3 B2 br zr
    intro j T wr hj hh
    obtain ⟨q100, HJ⟩ := hh
    obtain ⟨B3, B2, br⟩ := HJ.out
    clear HJ
    have zr := br.size
    by_cases hit2 : j < 48
    · go_upto_region 8 with fail
      refine wp_region_lit ?_
      refine q100.t (.int .i64 ((j + 16 : Nat) : Int)) (ex_move rfl (q100.e (j := 5) rfl)) fun _ q101 => ?_;clear q100
      refine q101.t (.bool true) (ex_bin rfl (q101.e (j := 28) rfl) rfl (ltT _ _ (show j + 16 < 64 by omega) _)) fun _ q102 => ?_;clear q101
      refine wpList_nil ?_
      go_upto_region 10 with fail
      refine wp_cond_true (q102.e (j := 29) rfl) ?_
      go_upto_region 10 with fail
      refine vq_start (C := fun v => v = wr.drew) (by kernel_rfl) (by kernel_rfl) rfl ?_
      have hd : Below wr.heap.size wr wr.drew := (Below.refl _ _).drew
      have hzd : wr.drew.heap.size = wr.heap.size := rfl
      generalize wr.drew = d at *
      have B3d := B3.later hd
      have B2d := B2.later hd
      have hl := wT_len b j
      refine q102.q (.int .i64 ((j + 16 : Nat) : Int)) (fun v hv => ex_move rfl (q102.e (j := 5) rfl)) fun _ q103 => ?_;clear q102
      refine q103.q (.int .i64 ((j + 16 - 15 : Nat) : Int)) (fun v hv => ex_bin rfl (q103.e (j := 32) rfl) rfl (subC9 _ _ (j + 16) 15 (by omega) (by omega) _)) fun _ q104 => ?_;clear q103
      refine q104.q (.pointer (some ⟨w1.heap.size, (j + 16 - 15), none⟩)) (fun v hv => ex_ix rfl (q104.e (j := 3) rfl) (q104.e (j := 33) rfl) (ixA0 w1.heap.size (j + 16 - 15) 64 165 103 Try.underlying165 i1u (by omega) _)) fun _ q105 => ?_;clear q104
      refine q105.q (.int .u32 ((wT b j).getD (j + 16 - 15) 0)) (fun v hv => by subst hv; exact ex_ld rfl (q105.e (j := 34) rfl) (ldU (B3d.u9 (by omega)))) fun _ q106 => ?_;clear q105
      refine q106.q (.int .i64 ((j + 16 : Nat) : Int)) (fun v hv => ex_move rfl (q106.e (j := 5) rfl)) fun _ q107 => ?_;clear q106
      refine q107.q (.int .i64 ((j + 16 - 2 : Nat) : Int)) (fun v hv => ex_bin rfl (q107.e (j := 36) rfl) rfl (subC9 _ _ (j + 16) 2 (by omega) (by omega) _)) fun _ q108 => ?_;clear q107
      refine q108.q (.pointer (some ⟨w1.heap.size, (j + 16 - 2), none⟩)) (fun v hv => ex_ix rfl (q108.e (j := 3) rfl) (q108.e (j := 37) rfl) (ixA0 w1.heap.size (j + 16 - 2) 64 165 103 Try.underlying165 i1u (by omega) _)) fun _ q109 => ?_;clear q108
      refine q109.q (.int .u32 ((wT b j).getD (j + 16 - 2) 0)) (fun v hv => by subst hv; exact ex_ld rfl (q109.e (j := 38) rfl) (ldU (B3d.u9 (by omega)))) fun _ q110 => ?_;clear q109
      refine q110.q (.int .u32 ((wT b j).getD (j + 16 - 15) 0)) (fun v hv => ex_assign rfl (q110.e (j := 35) rfl)) fun _ q111 => ?_;clear q110
      refine q111.q (.int .u32 ((wT b j).getD (j + 16 - 2) 0)) (fun v hv => ex_assign rfl (q111.e (j := 39) rfl)) fun _ q112 => ?_;clear q111
      refine vq_nil (fun r1 hr1 => ?_)
      subst hr1
      have q113 := (((((((Rp.nil q112.z).cons (q112.a 0 rfl)).cons (q112.a 2 rfl)).cons (q112.a 3 rfl)).cons (q112.a 5 rfl)).cons (q112.a 6 rfl)).cons (q112.a 7 rfl))
      clear q112
      obtain ⟨x, hx⟩ : ∃ x, x = (wT b j).getD (j + 16 - 15) 0 := ⟨_, rfl⟩
      obtain ⟨y, hy⟩ : ∃ y, y = (wT b j).getD (j + 16 - 2) 0 := ⟨_, rfl⟩
      rw [← hx, ← hy] at q113
      go_upto_region 11 with fail
      refine wp_region_lit ?_
      refine q113.t (.int .u32 x) (ex_move rfl (q113.e (j := 6) rfl)) fun _ q114 => ?_;clear q113
      refine vcallP (want_none rfl) (ex_call rfl (by simp only [List.map_toArray, List.map_cons, List.map_nil, (q114.e (j := 40) rfl), evc] <;> rfl) rfl) (ror_any x 7 (by decide) r1) rfl q114.z (by decide) ?_
      rintro e w9 ⟨rfl, rfl⟩
      refine ⟨_, rfl, q114.k fun _ q115 => ?_⟩;clear q114
      refine q115.t (.int .u32 x) (ex_move rfl (q115.e (j := 6) rfl)) fun _ q116 => ?_;clear q115
      refine vcallP (want_none rfl) (ex_call rfl (by simp only [List.map_toArray, List.map_cons, List.map_nil, (q116.e (j := 42) rfl), evc] <;> rfl) rfl) (ror_any x 18 (by decide) w9) rfl q116.z (by decide) ?_
      rintro e w8 ⟨rfl, rfl⟩
      refine ⟨_, rfl, q116.k fun _ q117 => ?_⟩;clear q116
      refine q117.t (.int .u32 (xo (ror9 x 7) (ror9 x 18))) (ex_bin rfl (q117.e (j := 41) rfl) (q117.e (j := 43) rfl) (xorU _ _ _ _ _)) fun _ q118 => ?_;clear q117
      refine q118.t (.int .u32 x) (ex_move rfl (q118.e (j := 6) rfl)) fun _ q119 => ?_;clear q118
      refine q119.t (.int .u32 (x / 2 ^ 3)) (ex_bin rfl (q119.e (j := 45) rfl) rfl (shrUu64 _ _ _ 3 (by decide) _)) fun _ q120 => ?_;clear q119
      refine q120.t (.int .u32 (s09 x)) (ex_bin rfl (q120.e (j := 44) rfl) (q120.e (j := 46) rfl) (xorU _ _ _ _ _)) fun _ q121 => ?_;clear q120
      refine q121.t (.int .u32 (s09 x)) (ex_assign rfl (q121.e (j := 47) rfl)) fun _ q122 => ?_;clear q121
      have q123 := (((((((Rp.nil q122.z).cons (q122.a 0 rfl)).cons (q122.a 2 rfl)).cons (q122.a 3 rfl)).cons (q122.a 5 rfl)).cons (q122.a 7 rfl)).cons (q122.a 8 rfl))
      clear q122
      refine wpList_nil ?_
      go_upto_region 12 with fail
      refine wp_region_lit ?_
      refine q123.t (.int .u32 y) (ex_move rfl (q123.e (j := 7) rfl)) fun _ q124 => ?_;clear q123
      refine vcallP (want_none rfl) (ex_call rfl (by simp only [List.map_toArray, List.map_cons, List.map_nil, (q124.e (j := 48) rfl), evc] <;> rfl) rfl) (ror_any y 17 (by decide) w8) rfl q124.z (by decide) ?_
      rintro e w9 ⟨rfl, rfl⟩
      refine ⟨_, rfl, q124.k fun _ q125 => ?_⟩;clear q124
      refine q125.t (.int .u32 y) (ex_move rfl (q125.e (j := 7) rfl)) fun _ q126 => ?_;clear q125
      refine vcallP (want_none rfl) (ex_call rfl (by simp only [List.map_toArray, List.map_cons, List.map_nil, (q126.e (j := 50) rfl), evc] <;> rfl) rfl) (ror_any y 19 (by decide) w9) rfl q126.z (by decide) ?_
      rintro e w8 ⟨rfl, rfl⟩
      refine ⟨_, rfl, q126.k fun _ q127 => ?_⟩;clear q126
      refine q127.t (.int .u32 (xo (ror9 y 17) (ror9 y 19))) (ex_bin rfl (q127.e (j := 49) rfl) (q127.e (j := 51) rfl) (xorU _ _ _ _ _)) fun _ q128 => ?_;clear q127
      refine q128.t (.int .u32 y) (ex_move rfl (q128.e (j := 7) rfl)) fun _ q129 => ?_;clear q128
      refine q129.t (.int .u32 (y / 2 ^ 10)) (ex_bin rfl (q129.e (j := 53) rfl) rfl (shrUu64 _ _ _ 10 (by decide) _)) fun _ q130 => ?_;clear q129
      refine q130.t (.int .u32 (s19 y)) (ex_bin rfl (q130.e (j := 52) rfl) (q130.e (j := 54) rfl) (xorU _ _ _ _ _)) fun _ q131 => ?_;clear q130
      refine q131.t (.int .u32 (s19 y)) (ex_assign rfl (q131.e (j := 55) rfl)) fun _ q132 => ?_;clear q131
      have q133 := (((((((Rp.nil q132.z).cons (q132.a 0 rfl)).cons (q132.a 2 rfl)).cons (q132.a 3 rfl)).cons (q132.a 5 rfl)).cons (q132.a 8 rfl)).cons (q132.a 9 rfl))
      clear q132
      refine wpList_nil ?_
      go_upto_region 13 with fail
      refine vg_start (fun k => k == 15) (fun v => v = w8.drew) (by kernel_rfl) ?_
      have he : Below w8.heap.size w8 w8.drew := (Below.refl _ _).drew
      have hze : w8.drew.heap.size = w8.heap.size := rfl
      generalize w8.drew = e at *
      have B3e := B3d.later he
      have B2e := B2d.later he
      have c16 := B3e.u9 (j := j + 16 - 16) (by omega)
      have c7 := B3e.u9 (j := j + 16 - 7) (by omega)
      have cj := B3e.u9 (j := j + 16) (by omega)
      refine vg_takeW 0 true (.int .i64 ((j + 16 : Nat) : Int)) rfl (by kernel_rfl) (by kernel_rfl) (by kernel_rfl) (by kernel_rfl) (want_none rfl) (fun hc v => ex_move rfl (q133.e (j := 5) rfl)) rfl q133.z (by decide) (fun _ => rfl) (q133.k fun _ q134 => ?_);clear q133
      refine vg_takeW 1 true (.int .i64 ((j + 16 : Nat) : Int)) rfl (by kernel_rfl) (by kernel_rfl) (by kernel_rfl) (by kernel_rfl) (want_none rfl) (fun hc v => ex_move rfl (q134.e (j := 5) rfl)) rfl q134.z (by decide) (fun _ => rfl) (q134.k fun _ q135 => ?_);clear q134
      refine vg_takeW 2 true (.int .i64 ((j + 16 - 16 : Nat) : Int)) rfl (by kernel_rfl) (by kernel_rfl) (by kernel_rfl) (by kernel_rfl) (want_none rfl) (fun hc v => ex_bin rfl (q135.e (j := 57) rfl) rfl (subC9 _ _ (j + 16) 16 (by omega) (by omega) _)) rfl q135.z (by decide) (fun _ => rfl) (q135.k fun _ q136 => ?_);clear q135
      refine vg_takeW 3 true (.pointer (some ⟨w1.heap.size, (j + 16 - 16), none⟩)) rfl (by kernel_rfl) (by kernel_rfl) (by kernel_rfl) (by kernel_rfl) (want_none rfl) (fun hc v => ex_ix rfl (q136.e (j := 3) rfl) (q136.e (j := 58) rfl) (ixA0 w1.heap.size (j + 16 - 16) 64 165 103 Try.underlying165 i1u (by omega) _)) rfl q136.z (by decide) (fun _ => rfl) (q136.k fun _ q137 => ?_);clear q136
      refine vg_take 4 true (.int .u32 ((wT b j).getD (j + 16 - 16) 0)) rfl (by kernel_rfl) (by kernel_rfl) (by kernel_rfl) (by kernel_rfl) (by kernel_rfl) (by kernel_rfl) (want_none rfl) (fun hc v hv => by subst hv; exact ex_ld rfl (q137.e (j := 59) rfl) (ldU c16)) rfl q137.z (by decide) rfl (q137.k fun _ q138 => ?_);clear q137
      refine vg_takeW 5 true (.int .u32 (s09 x)) rfl (by kernel_rfl) (by kernel_rfl) (by kernel_rfl) (by kernel_rfl) (want_none rfl) (fun hc v => ex_move rfl (q138.e (j := 8) rfl)) rfl q138.z (by decide) (fun _ => rfl) (q138.k fun _ q139 => ?_);clear q138
      refine vg_takeW 6 true (.int .u32 (ad ((wT b j).getD (j + 16 - 16) 0) (s09 x))) rfl (by kernel_rfl) (by kernel_rfl) (by kernel_rfl) (by kernel_rfl) (want_none rfl) (fun hc v => ex_bin rfl (q139.e (j := 60) rfl) (q139.e (j := 61) rfl) (addU _ _ _ _ _)) rfl q139.z (by decide) (fun _ => rfl) (q139.k fun _ q140 => ?_);clear q139
      refine vg_takeW 7 true (.int .i64 ((j + 16 : Nat) : Int)) rfl (by kernel_rfl) (by kernel_rfl) (by kernel_rfl) (by kernel_rfl) (want_none rfl) (fun hc v => ex_move rfl (q140.e (j := 5) rfl)) rfl q140.z (by decide) (fun _ => rfl) (q140.k fun _ q141 => ?_);clear q140
      refine vg_takeW 8 true (.int .i64 ((j + 16 - 7 : Nat) : Int)) rfl (by kernel_rfl) (by kernel_rfl) (by kernel_rfl) (by kernel_rfl) (want_none rfl) (fun hc v => ex_bin rfl (q141.e (j := 63) rfl) rfl (subC9 _ _ (j + 16) 7 (by omega) (by omega) _)) rfl q141.z (by decide) (fun _ => rfl) (q141.k fun _ q142 => ?_);clear q141
      refine vg_takeW 9 true (.pointer (some ⟨w1.heap.size, (j + 16 - 7), none⟩)) rfl (by kernel_rfl) (by kernel_rfl) (by kernel_rfl) (by kernel_rfl) (want_none rfl) (fun hc v => ex_ix rfl (q142.e (j := 3) rfl) (q142.e (j := 64) rfl) (ixA0 w1.heap.size (j + 16 - 7) 64 165 103 Try.underlying165 i1u (by omega) _)) rfl q142.z (by decide) (fun _ => rfl) (q142.k fun _ q143 => ?_);clear q142
      refine vg_take 10 true (.int .u32 ((wT b j).getD (j + 16 - 7) 0)) rfl (by kernel_rfl) (by kernel_rfl) (by kernel_rfl) (by kernel_rfl) (by kernel_rfl) (by kernel_rfl) (want_none rfl) (fun hc v hv => by subst hv; exact ex_ld rfl (q143.e (j := 65) rfl) (ldU c7)) rfl q143.z (by decide) rfl (q143.k fun _ q144 => ?_);clear q143
      refine vg_takeW 11 true (.int .u32 (ad (ad ((wT b j).getD (j + 16 - 16) 0) (s09 x)) ((wT b j).getD (j + 16 - 7) 0))) rfl (by kernel_rfl) (by kernel_rfl) (by kernel_rfl) (by kernel_rfl) (want_none rfl) (fun hc v => ex_bin rfl (q144.e (j := 62) rfl) (q144.e (j := 66) rfl) (addU _ _ _ _ _)) rfl q144.z (by decide) (fun _ => rfl) (q144.k fun _ q145 => ?_);clear q144
      refine vg_takeW 12 true (.int .u32 (s19 y)) rfl (by kernel_rfl) (by kernel_rfl) (by kernel_rfl) (by kernel_rfl) (want_none rfl) (fun hc v => ex_move rfl (q145.e (j := 9) rfl)) rfl q145.z (by decide) (fun _ => rfl) (q145.k fun _ q146 => ?_);clear q145
      refine vg_takeW 13 true (.int .u32 (ad (ad (ad ((wT b j).getD (j + 16 - 16) 0) (s09 x)) ((wT b j).getD (j + 16 - 7) 0)) (s19 y))) rfl (by kernel_rfl) (by kernel_rfl) (by kernel_rfl) (by kernel_rfl) (want_none rfl) (fun hc v => ex_bin rfl (q146.e (j := 67) rfl) (q146.e (j := 68) rfl) (addU _ _ _ _ _)) rfl q146.z (by decide) (fun _ => rfl) (q146.k fun _ q147 => ?_);clear q146
      refine vg_takeW 14 true (.pointer (some ⟨w1.heap.size, (j + 16), none⟩)) rfl (by kernel_rfl) (by kernel_rfl) (by kernel_rfl) (by kernel_rfl) (want_none rfl) (fun hc v => ex_ix rfl (q147.e (j := 3) rfl) (q147.e (j := 56) rfl) (ixA0 w1.heap.size (j + 16) 64 165 103 Try.underlying165 i1u (by omega) _)) rfl q147.z (by decide) (fun _ => rfl) (q147.k fun _ q148 => ?_);clear q147
      obtain ⟨d2, hd2⟩ : ∃ z, z = e.setCell ⟨w1.heap.size, j + 16, none⟩ (.int .u32 (ad (ad (ad ((wT b j).getD (j + 16 - 16) 0) (s09 x)) ((wT b j).getD (j + 16 - 7) 0)) (s19 y))) := ⟨_, rfl⟩
      refine vg_store 15 d2 rfl (by kernel_rfl) (by kernel_rfl) (want_none rfl) (ex_st rfl (q148.e (j := 70) rfl) (q148.e (j := 69) rfl) (by rw [hd2]; exact stU cj (B3e.free _))) rfl ?_
      have B3f : BB d2 w1.heap.size 165 ((wT b (j + 1)).map uV) := by rw [hd2]; subst hx hy; exact B3e.setu _ _
      have ue : Upd (fun k => k = w1.heap.size) e d2 := by rw [hd2]; exact upd1 _ _ _ _
      have B2f := B2e.upd ue (by omega)
      have be : Below w.heap.size w d2 := ((br.trans (hd.mono zr)).trans (he.mono (by omega))).trans (bel_ge ue (by omega) (by omega))
      clear hd2
      refine vg_done (by kernel_rfl) ?_
      have q149 := (((((Rp.nil q148.z).cons (q148.a 0 rfl)).cons (q148.a 2 rfl)).cons (q148.a 3 rfl)).cons (q148.a 5 rfl))
      clear q148
      go_upto_region 9 with fail
      refine wp_region_lit ?_
      refine q149.t (.int .i64 ((j + 16 : Nat) : Int)) (ex_move rfl (q149.e (j := 5) rfl)) fun _ q150 => ?_;clear q149
      refine q150.t (.int .i64 ((j + 16 + 1 : Nat) : Int)) (ex_bin rfl (q150.e (j := 30) rfl) rfl (add1C _ _ (j + 16) (by omega) _)) fun _ q151 => ?_;clear q150
      rw [show j + 16 + 1 = j + 1 + 16 by omega] at q151
      refine q151.t (.int .i64 ((j + 1 + 16 : Nat) : Int)) (ex_assign rfl (q151.e (j := 31) rfl)) fun _ q152 => ?_;clear q151
      have q153 := (((((Rp.nil q152.z).cons (q152.a 0 rfl)).cons (q152.a 2 rfl)).cons (q152.a 3 rfl)).cons (q152.a 5 rfl))
      clear q152
      refine wpList_nil ?_
      exact ⟨_, rfl, hit2, q153, B3f, B2f, be⟩
    · obtain rfl : j = 48 := by omega
      go_upto_region 8 with fail
      refine wp_region_lit ?_
      refine q100.t (.int .i64 ((48 + 16 : Nat) : Int)) (ex_move rfl (q100.e (j := 5) rfl)) fun _ q101 => ?_;clear q100
      refine q101.t (.bool false) (ex_bin rfl (q101.e (j := 28) rfl) rfl (ltF _ _ (show ¬ 48 + 16 < 64 by omega) _)) fun _ q102 => ?_;clear q101
      refine wpList_nil ?_
      go_upto_region 14 with fail
      refine wp_cond_false (q102.e (j := 29) rfl) ?_
      go_upto_region 14 with fail
      refine wp_region_lit ?_
      have hwl : (wT b 48).length = 64 := wT_len b 48
      have hwm : ((wT b 48).map uV).length = 64 := by rw [len_uV, hwl]
      refine q102.t (.agg ((wT b 48).map uV).toArray) (ex_ld rfl (q102.e (j := 3) rfl) (B3.ld 165 Try.underlying165 rfl (by rw [hwm]; exact i64u))) fun _ q103 => ?_;clear q102
      obtain ⟨w9, hw9⟩ : ∃ y, y = wr.setCells w.heap.size 0 ((wT b 48).map uV) := ⟨_, rfl⟩
      refine vs w9 (want_none rfl) (ex_st rfl (q103.e (j := 2) rfl) (q103.e (j := 71) rfl) (by rw [hw9]; exact B2.st 165 _ (by rw [hwm]; rfl) (by rw [List.size_toArray, hwm]; exact i64u) (one_u _))) rfl ?_
      have B9 : BB w9 w.heap.size 165 ((wT b 48).map uV) := by rw [hw9]; exact B2.whole _ (by rw [hwm]; rfl)
      have b9 : Below w.heap.size w w9 := by rw [hw9]; exact br.trans (bel_ge (upd18 _ _ _ _) br.size (Nat.le_refl _))
      clear hw9
      refine wpList_nil ?_
      go_wp2
      exact B9.res rfl (q103.a 2 rfl) Try.underlying165 rfl (by rw [hwm]; exact i64u) ⟨rfl, b9⟩

end Go.Proofs.Ytomiifnhcojilaa
