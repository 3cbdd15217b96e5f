import Derived.Test.YtfafhlahbhopaaaH5
set_option maxRecDepth 100000
set_option linter.unusedVariables false
set_option linter.unusedSimpArgs false
namespace Go.Proofs.Ytfafhlahbhopaaa
open Go.RowKit Go.Maps
open Classical
theorem resHT20 {fn : Func} {j i : Tmp} {h1 : Hs} {x : Value} {q1 : Nat} {T : TypeId} {tmps : Array Value} {w : World} (hf : fn.results = #[.cell j 24, .tmp i]) (hj : tmps[j]? = some (gw true (.pointer (some ⟨q1, 0, none⟩)))) (hi : tmps[i]? = some (gw true x)) (hb1 : BB w q1 T h1.cs) : (results fn tmps).run Try.prog w = .ok (.tuple #[h1.val, x]) w := by
  have l1 := run_loadVar_mid (P := Try.prog) w q1 0 24 h1.cs _ (fun j v hv => by rw [Nat.zero_add]; rw [hb1.cell]; exact hv) Try.underlying24 rfl (by rw [h1.len]; exact i32h)
  have e1 : tmps.getD j undef = .pointer (some ⟨q1, 0, none⟩) := getD_of hj
  have e3 : tmps.getD i undef = x := getD_of hi
  simp only [results, hf]
  simp only [Array.getD_eq_getD_getElem?] at e1 e3
  have ev1 : h1.val = .agg h1.cs.toArray := rfl
  rw [ev1]
  clear ev1 hb1
  generalize h1.cs.toArray = A1 at *
  simp [Sem.run_bind, Result.andThen, e1, e3, asAddr, l1]
  first | done | rfl
set_option maxHeartbeats 2000000 in
theorem climbs_1 (L : List En) (n p : Nat) (x y0 : En) (P : List Hs) (k : Nat) (hn : n = 1) (hy0 : L[0]? = some y0) (a : Option Addr) (c : Nat) (a3 : Option Addr) (c3 : Nat) (w : World) (hL : SlY yE w a n c L) (hP : SlY yH w a3 k c3 P) (hv : ∀ x ∈ L, x.o.v.size ≤ 140737488352232) (hx : x.o.v.size ≤ 140737488352232) :
    Calls Try.prog 32 #[.slice a n c, .int .i64 ((p : Nat) : Int), x.val20, .slice a3 k c3] w fun e w' => e = .returned (.tuple #[(lf x).val, .bool ((!decide (x = y0)) && (decide ((lf x).v = (lf y0).v)))]) ∧ Below w.heap.size w w' := by
  go_enter Try.func32, Try.ntmps32
  go_upto_region 0 with fail
  refine wp_region_lit ?_
  refine vl_gen (fun T => Rp T 108 [(3, gw true (.slice a3 k c3)), (2, gw true (x.val20)), (1, gw true (.int .i64 ((p : Nat) : Int))), (0, gw true (.slice a n c))]) (((((Rp.nil rfl).cons rfl).cons rfl).cons rfl).cons rfl) (fun Z0 q0 => ?_)
  obtain ⟨w1, hw1⟩ : ∃ y, y = w.alloc (.cells (x.cs).toArray 28) := ⟨_, rfl⟩
  refine vw (.pointer (some ⟨w.heap.size, 0, none⟩)) w1 (want_none rfl) (ex_box18 rfl (q0.e (j := 2) rfl) (by rw [hw1]; exact bxE20 _ _)) rfl q0.z (by decide) (q0.k fun _ q1 => ?_);clear q0
  have Bw1 : BB w1 w.heap.size 28 (x.cs) := by rw [hw1]; exact BB.new _ _ _
  have bw1 : Below w.heap.size w w1 := by rw [hw1]; exact (Below.refl _ _).alloc (Nat.le_refl _) _
  have zw1 : w1.heap.size = w.heap.size + 1 := by rw [hw1]; exact World.size_alloc _ _
  clear hw1
  have d2 : Below w.heap.size w w1 := bw1
  obtain ⟨w3, hw3⟩ : ∃ y, y = w1.alloc (.cells (zH.cs).toArray 24) := ⟨_, rfl⟩
  refine vw (.pointer (some ⟨w1.heap.size, 0, none⟩)) w3 (want_none rfl) (ex_al rfl (by rw [hw3]; exact alH _)) rfl q1.z (by decide) (q1.k fun _ q2 => ?_);clear q1
  have Bw3 : BB w3 w1.heap.size 24 (zH.cs) := by rw [hw3]; exact BB.new _ _ _
  have bw3 : Below w1.heap.size w1 w3 := by rw [hw3]; exact (Below.refl _ _).alloc (Nat.le_refl _) _
  have zw3 : w3.heap.size = w1.heap.size + 1 := by rw [hw3]; exact World.size_alloc _ _
  clear hw3
  have d4 : Below w.heap.size w w3 := d2.trans (bw3.mono d2.size)
  refine q2.t (.bool false) (ex_assign rfl rfl) fun _ q3 => ?_;clear q2
  refine wpList_nil ?_
  go_upto_region 1 with fail
  refine wp_region_lit ?_
  refine q3.t (.slice a n c) (ex_move rfl (q3.e (j := 0) rfl)) fun _ q4 => ?_;clear q3
  refine q4.t (.int .i64 ((n : Nat) : Int)) (ex_lenG rfl rfl Try.underlying22 (q4.e (j := 18) rfl)) fun _ q5 => ?_;clear q4
  refine q5.t (.bool true) (ex_bin (Y := .int .i64 ((1 : Nat) : Int)) rfl (q5.e (j := 19) rfl) rfl (eqT20 _ _ (by omega) _)) fun _ q6 => ?_;clear q5
  refine wpList_nil ?_
  go_upto_region 2 with fail
  refine wp_cond_true (q6.e (j := 20) rfl) ?_
  obtain ⟨kq5, ko6, rfl, hkq5, lkq5⟩ := hL.place (by rintro rfl; simp at hy0)
  have ckq5 := hL.cap
  go_upto_region 2 with fail
  have B7 : BB w3 w.heap.size 28 (x.cs) := (Bw1.later bw3)
  refine vp_start 108 (fun T v => Rp T 108 [(0, gw true (.slice (some ⟨kq5, ko6, none⟩) n c)), (1, gw true (.int .i64 ((p : Nat) : Int))), (3, gw true (.slice a3 k c3)), (6, gw true (.pointer (some ⟨w.heap.size, 0, none⟩))), (8, gw true (.pointer (some ⟨w1.heap.size, 0, none⟩))), (20, gw true (.bool true))] ∧ Upd (fun k => k = w1.heap.size) w3 v) (fun (i : Nat) (T : Array Value) (v : World) => match i with | 0 => T[21]? = some (gw true (x.val20)) | 1 => T[22]? = some (gw true ((lf x).val)) | 2 => T[23]? = some (gw true (x.val20)) | 3 => T[24]? = some (gw true (.slice (some ⟨kq5, ko6, none⟩) n c)) | 4 => T[25]? = some (gw true (.pointer (some ⟨kq5, ko6 + 0 * 5, none⟩))) | 5 => T[26]? = some (gw true (y0.val20)) | 6 => T[27]? = some (gw true (.bool (!decide (x = y0)))) | 7 => T[28]? = some (gw true (.bool (!decide (x = y0)))) | 8 => T[29]? = some (gw (true && ((!decide (x = y0)) == true)) (x.val20)) | 9 => T[30]? = some (gw (true && ((!decide (x = y0)) == true)) ((lf x).val)) | 10 => T[31]? = some (gw (true && ((!decide (x = y0)) == true)) (.slice (some ⟨kq5, ko6, none⟩) n c)) | 11 => T[32]? = some (gw (true && ((!decide (x = y0)) == true)) (.pointer (some ⟨kq5, ko6 + 0 * 5, none⟩))) | 12 => T[33]? = some (gw (true && ((!decide (x = y0)) == true)) (y0.val20)) | 13 => T[34]? = some (gw (true && ((!decide (x = y0)) == true)) ((lf y0).val)) | 14 => T[35]? = some (gw (true && ((!decide (x = y0)) == true)) (.bool (decide ((lf x).v = (lf y0).v)))) | 15 => T[36]? = some (gw true (.bool ((!decide (x = y0)) && (decide ((lf x).v = (lf y0).v))))) | 16 => BB v w1.heap.size 24 ((lf x).cs) | 17 => T[9]? = some (gw true (.bool ((!decide (x = y0)) && (decide ((lf x).v = (lf y0).v))))) | _ => True) (fun (i : Nat) (T : Array Value) (v : World) => match i with | 16 => BB v w1.heap.size 24 (zH.cs) | _ => True) (fun j T k => (j = 16 ∧ k = w1.heap.size)) (fun i => match i with | 0 => [21] | 1 => [22] | 2 => [23] | 3 => [24] | 4 => [25] | 5 => [26] | 6 => [27] | 7 => [28] | 8 => [29] | 9 => [30] | 10 => [31] | 11 => [32] | 12 => [33] | 13 => [34] | 14 => [35] | 15 => [36] | 16 => [] | 17 => [9] | _ => []) (fun _ => []) [0, 1, 3, 6, 8, 20] (fun i j => false) (fun i => false) (by kernel_rfl) (by kernel_rfl) q6.z ⟨(((((((Rp.nil q6.z).cons (q6.a 20 rfl)).cons (q6.a 8 rfl)).cons (q6.a 6 rfl)).cons (q6.a 3 rfl)).cons (q6.a 1 rfl)).cons (q6.a 0 rfl)), (Upd.refl _ _).drew20⟩ ?_ ?_ ?_ ?_ ?_ ?_
  · exact ⟨trivial, trivial, trivial, trivial, trivial, trivial, trivial, trivial, trivial, trivial, trivial, trivial, trivial, trivial, trivial, trivial, Bw3.later (Below.refl _ _).drew, trivial, trivial⟩
  · intro j T T2 v v2 h _ hz hk hu
    exact ⟨h.1.ch hz hk, h.2.tr20 hu (fun k hk he => by have he2 : (j = 16 ∧ k = w1.heap.size) := he; show k = w1.heap.size; omega)⟩
  · refine ⟨?_, ?_, ?_, ?_, ?_, ?_, ?_, ?_, ?_, ?_, ?_, ?_, ?_, ?_, ?_, ?_, ?_, ?_, trivial⟩
    · exact fun j hj hu T T2 v v2 h hD hz hk zU => (hk 21 (List.mem_singleton.2 rfl)).trans h
    · exact fun j hj hu T T2 v v2 h hD hz hk zU => (hk 22 (List.mem_singleton.2 rfl)).trans h
    · exact fun j hj hu T T2 v v2 h hD hz hk zU => (hk 23 (List.mem_singleton.2 rfl)).trans h
    · exact fun j hj hu T T2 v v2 h hD hz hk zU => (hk 24 (List.mem_singleton.2 rfl)).trans h
    · exact fun j hj hu T T2 v v2 h hD hz hk zU => (hk 25 (List.mem_singleton.2 rfl)).trans h
    · exact fun j hj hu T T2 v v2 h hD hz hk zU => (hk 26 (List.mem_singleton.2 rfl)).trans h
    · exact fun j hj hu T T2 v v2 h hD hz hk zU => (hk 27 (List.mem_singleton.2 rfl)).trans h
    · exact fun j hj hu T T2 v v2 h hD hz hk zU => (hk 28 (List.mem_singleton.2 rfl)).trans h
    · exact fun j hj hu T T2 v v2 h hD hz hk zU => (hk 29 (List.mem_singleton.2 rfl)).trans h
    · exact fun j hj hu T T2 v v2 h hD hz hk zU => (hk 30 (List.mem_singleton.2 rfl)).trans h
    · exact fun j hj hu T T2 v v2 h hD hz hk zU => (hk 31 (List.mem_singleton.2 rfl)).trans h
    · exact fun j hj hu T T2 v v2 h hD hz hk zU => (hk 32 (List.mem_singleton.2 rfl)).trans h
    · exact fun j hj hu T T2 v v2 h hD hz hk zU => (hk 33 (List.mem_singleton.2 rfl)).trans h
    · exact fun j hj hu T T2 v v2 h hD hz hk zU => (hk 34 (List.mem_singleton.2 rfl)).trans h
    · exact fun j hj hu T T2 v v2 h hD hz hk zU => (hk 35 (List.mem_singleton.2 rfl)).trans h
    · exact fun j hj hu T T2 v v2 h hD hz hk zU => (hk 36 (List.mem_singleton.2 rfl)).trans h
    · intro j hj hu T T2 v v2 h hD hz hk zU
      exact BB.upd h zU (fun he => by have he2 : (j = 16 ∧ w1.heap.size = w1.heap.size) := he; omega)
    · exact fun j hj hu T T2 v v2 h hD hz hk zU => (hk 9 (List.mem_singleton.2 rfl)).trans h
  · refine ⟨fun _ _ _ _ _ _ _ _ _ _ _ => trivial, fun _ _ _ _ _ _ _ _ _ _ _ => trivial, fun _ _ _ _ _ _ _ _ _ _ _ => trivial, fun _ _ _ _ _ _ _ _ _ _ _ => trivial, fun _ _ _ _ _ _ _ _ _ _ _ => trivial, fun _ _ _ _ _ _ _ _ _ _ _ => trivial, fun _ _ _ _ _ _ _ _ _ _ _ => trivial, fun _ _ _ _ _ _ _ _ _ _ _ => trivial, fun _ _ _ _ _ _ _ _ _ _ _ => trivial, fun _ _ _ _ _ _ _ _ _ _ _ => trivial, fun _ _ _ _ _ _ _ _ _ _ _ => trivial, fun _ _ _ _ _ _ _ _ _ _ _ => trivial, fun _ _ _ _ _ _ _ _ _ _ _ => trivial, fun _ _ _ _ _ _ _ _ _ _ _ => trivial, fun _ _ _ _ _ _ _ _ _ _ _ => trivial, fun _ _ _ _ _ _ _ _ _ _ _ => trivial, ?_, fun _ _ _ _ _ _ _ _ _ _ _ => trivial, trivial⟩
    · exact fun j hj T T2 v v2 h _ hz hk zU => BB.upd h zU (fun he => by have he2 : (j = 16 ∧ w1.heap.size = w1.heap.size) := he; omega)
  · refine ⟨?_, ?_, ?_, ?_, ?_, ?_, ?_, ?_, ?_, ?_, ?_, ?_, ?_, ?_, ?_, ?_, ?_, ?_, trivial⟩
    · intro T df v zz zB zp zC
      have qb := zB.1
      have zU := zB.2
      exact ⟨true, want_none rfl, fun _ => .inl ⟨_, _, ex_ld rfl (qb.e (j := 6) rfl) (B7.upd zU (show ¬ (w.heap.size = w1.heap.size) by omega)).ldE20, Upd.refl _ _, fun h => absurd h (by decide), fun T2 N => N.s 21 rfl⟩, fun h => absurd h (by decide), fun h => absurd h (by decide)⟩
    · intro T df v zz zB zp zC
      have qb := zB.1
      have zU := zB.2
      have p0 : T[21]? = some (gw true (x.val20)) := zp 0 (by kernel_rfl) (by kernel_rfl)
      refine ⟨true, want_none rfl, fun hc => .inr (.inr ⟨_, _, _, ex_call rfl (by simp only [List.map_toArray, List.map_cons, List.map_nil, (ev p0 rfl), evc] <;> rfl) rfl, leaf20 x v hx, ?_⟩), fun _ => rfl, fun h => absurd h (by decide)⟩
      rintro e w9 ⟨rfl, b9⟩
      exact ⟨_, rfl, Upd.of_below b9, fun h => absurd h (by decide), fun T2 N => N.s 22 rfl⟩
    · intro T df v zz zB zp zC
      have qb := zB.1
      have zU := zB.2
      exact ⟨true, want_none rfl, fun _ => .inl ⟨_, _, ex_ld rfl (qb.e (j := 6) rfl) (B7.upd zU (show ¬ (w.heap.size = w1.heap.size) by omega)).ldE20, Upd.refl _ _, fun h => absurd h (by decide), fun T2 N => N.s 23 rfl⟩, fun h => absurd h (by decide), fun h => absurd h (by decide)⟩
    · intro T df v zz zB zp zC
      have qb := zB.1
      have zU := zB.2
      exact ⟨true, want_none rfl, fun _ => .inl ⟨_, _, ex_move rfl (qb.e (j := 0) rfl), Upd.refl _ _, fun h => absurd h (by decide), fun T2 N => N.s 24 rfl⟩, fun h => absurd h (by decide), fun h => absurd h (by decide)⟩
    · intro T df v zz zB zp zC
      have qb := zB.1
      have zU := zB.2
      have p3 : T[24]? = some (gw true (.slice (some ⟨kq5, ko6, none⟩) n c)) := zp 3 (by kernel_rfl) (by kernel_rfl)
      exact ⟨true, want_none rfl, fun _ => .inl ⟨_, _, ex_ix (Y := .int .i64 ((0 : Nat) : Int)) rfl (ev p3 rfl) rfl (ixE20 kq5 ko6 n c 0 (by omega) _), Upd.refl _ _, fun h => absurd h (by decide), fun T2 N => N.s 25 rfl⟩, fun h => absurd h (by decide), fun h => absurd h (by decide)⟩
    · intro T df v zz zB zp zC
      have qb := zB.1
      have zU := zB.2
      have zDw : Below w.heap.size w v := d4.trans (zU.below d4.size (fun k hk => by have hk2 : k = w1.heap.size := hk; omega))
      have p4 : T[25]? = some (gw true (.pointer (some ⟨kq5, ko6 + 0 * 5, none⟩))) := zp 4 (by kernel_rfl) (by kernel_rfl)
      exact ⟨true, want_none rfl, fun _ => .inl ⟨_, _, ex_ld rfl (ev p4 rfl) (ldEl20 (lkq5.upd (S := fun _ => False) (Upd.of_below zDw) hkq5 id) hy0), Upd.refl _ _, fun h => absurd h (by decide), fun T2 N => N.s 26 rfl⟩, fun h => absurd h (by decide), fun h => absurd h (by decide)⟩
    · intro T df v zz zB zp zC
      have qb := zB.1
      have zU := zB.2
      have p2 : T[23]? = some (gw true (x.val20)) := zp 2 (by kernel_rfl) (by kernel_rfl)
      have p5 : T[26]? = some (gw true (y0.val20)) := zp 5 (by kernel_rfl) (by kernel_rfl)
      exact ⟨true, want_none rfl, fun _ => .inl ⟨_, _, ex_bin rfl (ev p2 rfl) (ev p5 rfl) (neEn20 _ _ _ _ _), Upd.refl _ _, fun h => absurd h (by decide), fun T2 N => N.s 27 rfl⟩, fun h => absurd h (by decide), fun h => absurd h (by decide)⟩
    · intro T df v zz zB zp zC
      have qb := zB.1
      have zU := zB.2
      have p6 : T[27]? = some (gw true (.bool (!decide (x = y0)))) := zp 6 (by kernel_rfl) (by kernel_rfl)
      exact ⟨true, want_none rfl, fun _ => .inl ⟨_, _, ex_move rfl (ev p6 rfl), Upd.refl _ _, fun h => absurd h (by decide), fun T2 N => N.s 28 rfl⟩, fun h => absurd h (by decide), fun h => absurd h (by decide)⟩
    · intro T df v zz zB zp zC
      have qb := zB.1
      have zU := zB.2
      have p7 : T[28]? = some (gw true (.bool (!decide (x = y0)))) := zp 7 (by kernel_rfl) (by kernel_rfl)
      exact ⟨(true && ((!decide (x = y0)) == true)), want_g rfl rfl p7, fun hc => .inl ⟨_, _, ex_ld rfl (qb.e (j := 6) rfl) (B7.upd zU (show ¬ (w.heap.size = w1.heap.size) by omega)).ldE20, Upd.refl _ _, fun h => absurd h (by decide), fun T2 N => by rw [hc]; exact N.s 29 rfl⟩, fun _ => rfl, fun hc T2 N => by rw [hc]; exact N.s 29 rfl⟩
    · intro T df v zz zB zp zC
      have qb := zB.1
      have zU := zB.2
      have p7 : T[28]? = some (gw true (.bool (!decide (x = y0)))) := zp 7 (by kernel_rfl) (by kernel_rfl)
      have p8 : T[29]? = some (gw (true && ((!decide (x = y0)) == true)) (x.val20)) := zp 8 (by kernel_rfl) (by kernel_rfl)
      refine ⟨(true && ((!decide (x = y0)) == true)), want_g rfl rfl p7, fun hc => .inr (.inr ⟨_, _, _, ex_call rfl (by simp only [List.map_toArray, List.map_cons, List.map_nil, (ev p8 hc), evc] <;> rfl) rfl, leaf20 x v hx, ?_⟩), fun _ => rfl, fun hc T2 N => by rw [hc]; exact N.s 30 rfl⟩
      rintro e w9 ⟨rfl, b9⟩
      exact ⟨_, rfl, Upd.of_below b9, fun h => absurd h (by decide), fun T2 N => by rw [hc]; exact N.s 30 rfl⟩
    · intro T df v zz zB zp zC
      have qb := zB.1
      have zU := zB.2
      have p7 : T[28]? = some (gw true (.bool (!decide (x = y0)))) := zp 7 (by kernel_rfl) (by kernel_rfl)
      exact ⟨(true && ((!decide (x = y0)) == true)), want_g rfl rfl p7, fun hc => .inl ⟨_, _, ex_move rfl (qb.e (j := 0) rfl), Upd.refl _ _, fun h => absurd h (by decide), fun T2 N => by rw [hc]; exact N.s 31 rfl⟩, fun _ => rfl, fun hc T2 N => by rw [hc]; exact N.s 31 rfl⟩
    · intro T df v zz zB zp zC
      have qb := zB.1
      have zU := zB.2
      have p7 : T[28]? = some (gw true (.bool (!decide (x = y0)))) := zp 7 (by kernel_rfl) (by kernel_rfl)
      have p10 : T[31]? = some (gw (true && ((!decide (x = y0)) == true)) (.slice (some ⟨kq5, ko6, none⟩) n c)) := zp 10 (by kernel_rfl) (by kernel_rfl)
      exact ⟨(true && ((!decide (x = y0)) == true)), want_g rfl rfl p7, fun hc => .inl ⟨_, _, ex_ix (Y := .int .i64 ((0 : Nat) : Int)) rfl (ev p10 hc) rfl (ixE20 kq5 ko6 n c 0 (by omega) _), Upd.refl _ _, fun h => absurd h (by decide), fun T2 N => by rw [hc]; exact N.s 32 rfl⟩, fun _ => rfl, fun hc T2 N => by rw [hc]; exact N.s 32 rfl⟩
    · intro T df v zz zB zp zC
      have qb := zB.1
      have zU := zB.2
      have zDw : Below w.heap.size w v := d4.trans (zU.below d4.size (fun k hk => by have hk2 : k = w1.heap.size := hk; omega))
      have p7 : T[28]? = some (gw true (.bool (!decide (x = y0)))) := zp 7 (by kernel_rfl) (by kernel_rfl)
      have p11 : T[32]? = some (gw (true && ((!decide (x = y0)) == true)) (.pointer (some ⟨kq5, ko6 + 0 * 5, none⟩))) := zp 11 (by kernel_rfl) (by kernel_rfl)
      exact ⟨(true && ((!decide (x = y0)) == true)), want_g rfl rfl p7, fun hc => .inl ⟨_, _, ex_ld rfl (ev p11 hc) (ldEl20 (lkq5.upd (S := fun _ => False) (Upd.of_below zDw) hkq5 id) hy0), Upd.refl _ _, fun h => absurd h (by decide), fun T2 N => by rw [hc]; exact N.s 33 rfl⟩, fun _ => rfl, fun hc T2 N => by rw [hc]; exact N.s 33 rfl⟩
    · intro T df v zz zB zp zC
      have qb := zB.1
      have zU := zB.2
      have p7 : T[28]? = some (gw true (.bool (!decide (x = y0)))) := zp 7 (by kernel_rfl) (by kernel_rfl)
      have p12 : T[33]? = some (gw (true && ((!decide (x = y0)) == true)) (y0.val20)) := zp 12 (by kernel_rfl) (by kernel_rfl)
      refine ⟨(true && ((!decide (x = y0)) == true)), want_g rfl rfl p7, fun hc => .inr (.inr ⟨_, _, _, ex_call rfl (by simp only [List.map_toArray, List.map_cons, List.map_nil, (ev p12 hc), evc] <;> rfl) rfl, leaf20 y0 v (hv _ (List.mem_of_getElem? hy0)), ?_⟩), fun _ => rfl, fun hc T2 N => by rw [hc]; exact N.s 34 rfl⟩
      rintro e w9 ⟨rfl, b9⟩
      exact ⟨_, rfl, Upd.of_below b9, fun h => absurd h (by decide), fun T2 N => by rw [hc]; exact N.s 34 rfl⟩
    · intro T df v zz zB zp zC
      have qb := zB.1
      have zU := zB.2
      have p7 : T[28]? = some (gw true (.bool (!decide (x = y0)))) := zp 7 (by kernel_rfl) (by kernel_rfl)
      have p9 : T[30]? = some (gw (true && ((!decide (x = y0)) == true)) ((lf x).val)) := zp 9 (by kernel_rfl) (by kernel_rfl)
      have p13 : T[34]? = some (gw (true && ((!decide (x = y0)) == true)) ((lf y0).val)) := zp 13 (by kernel_rfl) (by kernel_rfl)
      exact ⟨(true && ((!decide (x = y0)) == true)), want_g rfl rfl p7, fun hc => .inl ⟨_, _, ex_bin rfl (ev p9 hc) (ev p13 hc) (eqHZ _ _ _ _ _), Upd.refl _ _, fun h => absurd h (by decide), fun T2 N => by rw [hc]; exact N.s 35 rfl⟩, fun _ => rfl, fun hc T2 N => by rw [hc]; exact N.s 35 rfl⟩
    · intro T df v zz zB zp zC
      have qb := zB.1
      have zU := zB.2
      have p7 : T[28]? = some (gw true (.bool (!decide (x = y0)))) := zp 7 (by kernel_rfl) (by kernel_rfl)
      have p14 : T[35]? = some (gw (true && ((!decide (x = y0)) == true)) (.bool (decide ((lf x).v = (lf y0).v)))) := zp 14 (by kernel_rfl) (by kernel_rfl)
      exact ⟨true, want_none rfl, fun _ => .inl ⟨_, _, ex_and (c := true) (b := (!decide (x = y0))) (z := (decide ((lf x).v = (lf y0).v))) rfl p7 p14 rfl, Upd.refl _ _, fun h => absurd h (by decide), fun T2 N => N.s 36 rfl⟩, fun h => absurd h (by decide), fun h => absurd h (by decide)⟩
    · intro T df v zz zB zp zC
      have qb := zB.1
      have zU := zB.2
      have p1 : T[22]? = some (gw true ((lf x).val)) := zp 1 (by kernel_rfl) (by kernel_rfl)
      have hq : BB v w1.heap.size 24 (zH.cs) := zC 16 _ rfl (.inl rfl)
      exact ⟨_, want_none rfl, fun _ => .inr (.inl ⟨_, ex_st rfl (qb.e (j := 8) rfl) (ev p1 rfl) (hq.stH rfl _), (upd18 _ _ _ _).sub20 (fun k hk => by have hk2 : k = w1.heap.size := hk; show (16 = 16 ∧ k = w1.heap.size); omega), fun h => absurd h (by decide), fun T2 N => hq.putH rfl _⟩), fun h => absurd h (by decide), fun h => absurd h (by decide)⟩
    · intro T df v zz zB zp zC
      have qb := zB.1
      have zU := zB.2
      have p15 : T[36]? = some (gw true (.bool ((!decide (x = y0)) && (decide ((lf x).v = (lf y0).v))))) := zp 15 (by kernel_rfl) (by kernel_rfl)
      exact ⟨true, want_none rfl, fun _ => .inl ⟨_, _, ex_assign rfl (ev p15 rfl), Upd.refl _ _, fun h => absurd h (by decide), fun T2 N => N.s 9 rfl⟩, fun h => absurd h (by decide), fun h => absurd h (by decide)⟩
  intro T v8 zz zB zq za
  have qb := zB.1
  have U9 := zB.2
  clear zB zz
  clear q6
  have d10 : Below w.heap.size w v8 := d4.trans (U9.below (Nat.le_trans d4.size (Nat.le_refl _)) (fun k hk => by have hk2 : k = w1.heap.size := hk; omega))
  have zv8 := U9.size
  have B11 : BB v8 w1.heap.size 24 ((lf x).cs) := zq 16 _ rfl (fun k => rfl)
  have p17 : T[9]? = some (gw true (.bool ((!decide (x = y0)) && (decide ((lf x).v = (lf y0).v))))) := zq 17 _ rfl (fun k => rfl)
  have q7 := (qb.cons p17)
  clear zq za qb p17
  go_wp2
  exact bodyPost_ret (resHT20 rfl (q7.a 8 rfl) (q7.a 9 rfl) B11) rfl ⟨rfl, d10⟩
set_option maxHeartbeats 2000000 in
theorem climbs_l (L : List En) (n p : Nat) (x : En) (tp : Hs) (P : List Hs) (k : Nat) (htp : P[k - 1]? = some tp) (hk : 1 ≤ k) (hk2 : k ≤ 1000000000) (F1 : Bool) (c1 : ∀ (a : Option Addr) (c : Nat) (a3 : Option Addr) (c3 : Nat) (w : World), SlY yE w a (lft n) c (L.take (lft n)) → SlY yH w a3 (k - 1) c3 (P.take (k - 1)) → Calls Try.prog 32 #[.slice a (lft n) c, .int .i64 ((p : Nat) : Int), x.val20, .slice a3 (k - 1) c3] w fun e w' => e = .returned (.tuple #[(cl (lf x) p (lft n) (P.take (k - 1))).val, .bool F1]) ∧ Below w.heap.size w w') (a : Option Addr) (c : Nat) (a3 : Option Addr) (c3 : Nat) (w : World) (hL : SlY yE w a n c L) (hP : SlY yH w a3 k c3 P) (hn : 2 ≤ n) (hn2 : n ≤ 1000000) (hp : p ≤ lft n) (hpn : p ≤ n) (hv : ∀ x ∈ L, x.o.v.size ≤ 140737488352232) (hx : x.o.v.size ≤ 140737488352232) :
    Calls Try.prog 32 #[.slice a n c, .int .i64 ((p : Nat) : Int), x.val20, .slice a3 k c3] w fun e w' => e = .returned (.tuple #[(nd (cl (lf x) p (lft n) (P.take (k - 1))) tp).val, .bool (F1 || ((!(decide ((cl (lf x) p (lft n) (P.take (k - 1))).v = (hd ((L.map lf).take (lft n))).v) && decide (tp.v = (hd ((L.map lf).drop (lft n))).v))) && decide ((nd (cl (lf x) p (lft n) (P.take (k - 1))) tp).v = (nd (hd ((L.map lf).take (lft n))) (hd ((L.map lf).drop (lft n)))).v)))]) ∧ Below w.heap.size w w' := by
  have hb := lft_b (n := n) (by omega)
  go_enter Try.func32, Try.ntmps32
  go_upto_region 0 with fail
  refine wp_region_lit ?_
  refine vl_gen (fun T => Rp T 108 [(3, gw true (.slice a3 k c3)), (2, gw true (x.val20)), (1, gw true (.int .i64 ((p : Nat) : Int))), (0, gw true (.slice a n c))]) (((((Rp.nil rfl).cons rfl).cons rfl).cons rfl).cons rfl) (fun Z0 q0 => ?_)
  obtain ⟨w1, hw1⟩ : ∃ y, y = w.alloc (.cells (x.cs).toArray 28) := ⟨_, rfl⟩
  refine vw (.pointer (some ⟨w.heap.size, 0, none⟩)) w1 (want_none rfl) (ex_box18 rfl (q0.e (j := 2) rfl) (by rw [hw1]; exact bxE20 _ _)) rfl q0.z (by decide) (q0.k fun _ q1 => ?_);clear q0
  have Bw1 : BB w1 w.heap.size 28 (x.cs) := by rw [hw1]; exact BB.new _ _ _
  have bw1 : Below w.heap.size w w1 := by rw [hw1]; exact (Below.refl _ _).alloc (Nat.le_refl _) _
  have zw1 : w1.heap.size = w.heap.size + 1 := by rw [hw1]; exact World.size_alloc _ _
  clear hw1
  have d2 : Below w.heap.size w w1 := bw1
  obtain ⟨w3, hw3⟩ : ∃ y, y = w1.alloc (.cells (zH.cs).toArray 24) := ⟨_, rfl⟩
  refine vw (.pointer (some ⟨w1.heap.size, 0, none⟩)) w3 (want_none rfl) (ex_al rfl (by rw [hw3]; exact alH _)) rfl q1.z (by decide) (q1.k fun _ q2 => ?_);clear q1
  have Bw3 : BB w3 w1.heap.size 24 (zH.cs) := by rw [hw3]; exact BB.new _ _ _
  have bw3 : Below w1.heap.size w1 w3 := by rw [hw3]; exact (Below.refl _ _).alloc (Nat.le_refl _) _
  have zw3 : w3.heap.size = w1.heap.size + 1 := by rw [hw3]; exact World.size_alloc _ _
  clear hw3
  have d4 : Below w.heap.size w w3 := d2.trans (bw3.mono d2.size)
  refine q2.t (.bool false) (ex_assign rfl rfl) fun _ q3 => ?_;clear q2
  refine wpList_nil ?_
  go_upto_region 1 with fail
  refine wp_region_lit ?_
  refine q3.t (.slice a n c) (ex_move rfl (q3.e (j := 0) rfl)) fun _ q4 => ?_;clear q3
  refine q4.t (.int .i64 ((n : Nat) : Int)) (ex_lenG rfl rfl Try.underlying22 (q4.e (j := 18) rfl)) fun _ q5 => ?_;clear q4
  refine q5.t (.bool false) (ex_bin (Y := .int .i64 ((1 : Nat) : Int)) rfl (q5.e (j := 19) rfl) rfl (eqF20 _ _ (by omega) _)) fun _ q6 => ?_;clear q5
  refine wpList_nil ?_
  go_upto_region 3 with fail
  refine wp_cond_false (q6.e (j := 20) rfl) ?_
  go_upto_region 3 with fail
  refine wp_region_lit ?_
  refine q6.t (.slice a n c) (ex_move rfl (q6.e (j := 0) rfl)) fun _ q7 => ?_;clear q6
  refine q7.t (.int .i64 ((n : Nat) : Int)) (ex_lenG rfl rfl Try.underlying22 (q7.e (j := 37) rfl)) fun _ q8 => ?_;clear q7
  refine vcallP (want_none rfl) (ex_call rfl (by simp only [List.map_toArray, List.map_cons, List.map_nil, (q8.e (j := 38) rfl), evc] <;> rfl) rfl) (split20 n (by omega) (by omega) w3) rfl q8.z (by decide) ?_
  rintro e w5 ⟨rfl, hw5⟩
  refine ⟨_, rfl, q8.k fun _ q9 => ?_⟩;clear q8
  have hw5 := hw5.symm
  subst hw5
  refine q9.t (.int .i64 ((lft n : Nat) : Int)) (ex_assign rfl (q9.e (j := 39) rfl)) fun _ q10 => ?_;clear q9
  refine wpList_nil ?_
  have lL := hL.len
  obtain ⟨kq6, ko7, rfl, hkq6, lkq6⟩ := hL.place (by rintro rfl; simp at lL; omega)
  have ckq6 := hL.cap
  obtain ⟨kq8, ko9, rfl, hkq8, lkq8⟩ := hP.place (by rintro rfl; simp at htp)
  have ckq8 := hP.cap
  go_upto_region 4 with fail
  refine wp_region_lit ?_
  refine q10.t (.slice (some ⟨kq8, ko9, none⟩) k c3) (ex_move rfl (q10.e (j := 3) rfl)) fun _ q11 => ?_;clear q10
  refine q11.t (.int .i64 ((k : Nat) : Int)) (ex_lenG rfl rfl Try.underlying42 (q11.e (j := 40) rfl)) fun _ q12 => ?_;clear q11
  refine q12.t (.int .i64 ((k - 1 : Nat) : Int)) (ex_bin (Y := .int .i64 ((1 : Nat) : Int)) rfl (q12.e (j := 41) rfl) rfl (subP _ _ k 1 (by omega) (by omega) _)) fun _ q13 => ?_;clear q12
  refine q13.t (.int .i64 ((k - 1 : Nat) : Int)) (ex_assign rfl (q13.e (j := 42) rfl)) fun _ q14 => ?_;clear q13
  refine wpList_nil ?_
  go_upto_region 5 with fail
  refine wp_region_lit ?_
  refine q14.t (.int .i64 ((p : Nat) : Int)) (ex_move rfl (q14.e (j := 1) rfl)) fun _ q15 => ?_;clear q14
  refine q15.t (.int .i64 ((lft n : Nat) : Int)) (ex_move rfl (q15.e (j := 10) rfl)) fun _ q16 => ?_;clear q15
  refine q16.t (.bool true) (ex_bin rfl (q16.e (j := 43) rfl) (q16.e (j := 44) rfl) (leT20 _ _ (by omega) _)) fun _ q17 => ?_;clear q16
  refine wpList_nil ?_
  go_upto_region 6 with fail
  refine wp_cond_true (q17.e (j := 45) rfl) ?_
  go_upto_region 6 with fail
  have B10 : BB w3 w.heap.size 28 (x.cs) := (Bw1.later bw3)
  refine vp_start 108 (fun T v => Rp T 108 [(0, gw true (.slice (some ⟨kq6, ko7, none⟩) n c)), (1, gw true (.int .i64 ((p : Nat) : Int))), (3, gw true (.slice (some ⟨kq8, ko9, none⟩) k c3)), (6, gw true (.pointer (some ⟨w.heap.size, 0, none⟩))), (8, gw true (.pointer (some ⟨w1.heap.size, 0, none⟩))), (9, gw true (.bool false)), (10, gw true (.int .i64 ((lft n : Nat) : Int))), (11, gw true (.int .i64 ((k - 1 : Nat) : Int))), (20, gw true (.bool false)), (45, gw true (.bool true))] ∧ Upd (fun k => False) w3 v) (fun (i : Nat) (T : Array Value) (v : World) => match i with | 0 => T[47]? = some (gw true (.slice (some ⟨kq6, ko7, none⟩) n c)) | 1 => T[48]? = some (gw true (.int .i64 ((lft n : Nat) : Int))) | 2 => T[49]? = some (gw true (.slice (some ⟨kq6, ko7, none⟩) (lft n) c)) | 3 => T[50]? = some (gw true (.int .i64 ((p : Nat) : Int))) | 4 => T[51]? = some (gw true (x.val20)) | 5 => T[52]? = some (gw true (.slice (some ⟨kq8, ko9, none⟩) k c3)) | 6 => T[53]? = some (gw true (.int .i64 ((k - 1 : Nat) : Int))) | 7 => T[54]? = some (gw true (.slice (some ⟨kq8, ko9, none⟩) (k - 1) c3)) | 8 => T[55]? = some (gw true (.tuple #[(cl (lf x) p (lft n) (P.take (k - 1))).val, .bool (F1)])) | 9 => T[46]? = some (gw true (.tuple #[(cl (lf x) p (lft n) (P.take (k - 1))).val, .bool (F1)])) | 10 => T[56]? = some (gw true ((cl (lf x) p (lft n) (P.take (k - 1))).val)) | 11 => T[57]? = some (gw true (.bool (F1))) | 12 => ∃ b : Nat, T[12]? = some (gw true (.pointer (some ⟨b, 0, none⟩))) ∧ BB v b 24 (zH.cs) ∧ w3.heap.size ≤ b | 13 => ∃ b : Nat, T[12]? = some (gw true (.pointer (some ⟨b, 0, none⟩))) ∧ BB v b 24 ((cl (lf x) p (lft n) (P.take (k - 1))).cs) ∧ w3.heap.size ≤ b | 14 => T[13]? = some (gw true (.bool (F1))) | _ => True) (fun (i : Nat) (T : Array Value) (v : World) => match i with | _ => True) (fun j T k => (j = 13 ∧ k = ptr T 12 ∧ w3.heap.size ≤ k)) (fun i => match i with | 0 => [47] | 1 => [48] | 2 => [49] | 3 => [50] | 4 => [51] | 5 => [52] | 6 => [53] | 7 => [54] | 8 => [55] | 9 => [46] | 10 => [56] | 11 => [57] | 12 => [12] | 13 => [12] | 14 => [13] | _ => []) (fun _ => []) [0, 1, 3, 6, 8, 9, 10, 11, 20, 45] (fun i j => (Nat.beq i 12 && Nat.beq j 13)) (fun i => Nat.beq i 12) (by kernel_rfl) (by kernel_rfl) q17.z ⟨(((((((((((Rp.nil q17.z).cons (q17.a 45 rfl)).cons (q17.a 20 rfl)).cons (q17.a 11 rfl)).cons (q17.a 10 rfl)).cons (q17.a 9 rfl)).cons (q17.a 8 rfl)).cons (q17.a 6 rfl)).cons (q17.a 3 rfl)).cons (q17.a 1 rfl)).cons (q17.a 0 rfl)), (Upd.refl _ _).drew20⟩ ?_ ?_ ?_ ?_ ?_ ?_
  · exact ⟨trivial, trivial, trivial, trivial, trivial, trivial, trivial, trivial, trivial, trivial, trivial, trivial, trivial, trivial, trivial, trivial⟩
  · intro j T T2 v v2 h _ hz hk hu
    exact ⟨h.1.ch hz hk, h.2.tr20 hu (fun k hk he => by have he2 : (j = 13 ∧ k = ptr T 12 ∧ w3.heap.size ≤ k) := he; show False; omega)⟩
  · refine ⟨?_, ?_, ?_, ?_, ?_, ?_, ?_, ?_, ?_, ?_, ?_, ?_, ?_, ?_, ?_, trivial⟩
    · exact fun j hj hu T T2 v v2 h hD hz hk zU => (hk 47 (List.mem_singleton.2 rfl)).trans h
    · exact fun j hj hu T T2 v v2 h hD hz hk zU => (hk 48 (List.mem_singleton.2 rfl)).trans h
    · exact fun j hj hu T T2 v v2 h hD hz hk zU => (hk 49 (List.mem_singleton.2 rfl)).trans h
    · exact fun j hj hu T T2 v v2 h hD hz hk zU => (hk 50 (List.mem_singleton.2 rfl)).trans h
    · exact fun j hj hu T T2 v v2 h hD hz hk zU => (hk 51 (List.mem_singleton.2 rfl)).trans h
    · exact fun j hj hu T T2 v v2 h hD hz hk zU => (hk 52 (List.mem_singleton.2 rfl)).trans h
    · exact fun j hj hu T T2 v v2 h hD hz hk zU => (hk 53 (List.mem_singleton.2 rfl)).trans h
    · exact fun j hj hu T T2 v v2 h hD hz hk zU => (hk 54 (List.mem_singleton.2 rfl)).trans h
    · exact fun j hj hu T T2 v v2 h hD hz hk zU => (hk 55 (List.mem_singleton.2 rfl)).trans h
    · exact fun j hj hu T T2 v v2 h hD hz hk zU => (hk 46 (List.mem_singleton.2 rfl)).trans h
    · exact fun j hj hu T T2 v v2 h hD hz hk zU => (hk 56 (List.mem_singleton.2 rfl)).trans h
    · exact fun j hj hu T T2 v v2 h hD hz hk zU => (hk 57 (List.mem_singleton.2 rfl)).trans h
    · intro j hj hu T T2 v v2 h hD hz hk zU
      obtain ⟨b, pb, Bb, lb⟩ := h
      have e1 : ptr T 12 = b := by unfold ptr; rw [pb]; rfl
      have n13 : j ≠ 13 := fun e => by subst e; exact absurd hu (by decide)
      exact ⟨b, (hk 12 (List.mem_singleton.2 rfl)).trans pb, Bb.upd zU (fun he => by have he2 : (j = 13 ∧ b = ptr T 12 ∧ w3.heap.size ≤ b) := he; omega), lb⟩
    · intro j hj hu T T2 v v2 h hD hz hk zU
      obtain ⟨b, pb, Bb, lb⟩ := h
      have e1 : ptr T 12 = b := by unfold ptr; rw [pb]; rfl
      exact ⟨b, (hk 12 (List.mem_singleton.2 rfl)).trans pb, Bb.upd zU (fun he => by have he2 : (j = 13 ∧ b = ptr T 12 ∧ w3.heap.size ≤ b) := he; omega), lb⟩
    · exact fun j hj hu T T2 v v2 h hD hz hk zU => (hk 13 (List.mem_singleton.2 rfl)).trans h
  · refine ⟨fun _ _ _ _ _ _ _ _ _ _ _ => trivial, fun _ _ _ _ _ _ _ _ _ _ _ => trivial, fun _ _ _ _ _ _ _ _ _ _ _ => trivial, fun _ _ _ _ _ _ _ _ _ _ _ => trivial, fun _ _ _ _ _ _ _ _ _ _ _ => trivial, fun _ _ _ _ _ _ _ _ _ _ _ => trivial, fun _ _ _ _ _ _ _ _ _ _ _ => trivial, fun _ _ _ _ _ _ _ _ _ _ _ => trivial, fun _ _ _ _ _ _ _ _ _ _ _ => trivial, fun _ _ _ _ _ _ _ _ _ _ _ => trivial, fun _ _ _ _ _ _ _ _ _ _ _ => trivial, fun _ _ _ _ _ _ _ _ _ _ _ => trivial, fun _ _ _ _ _ _ _ _ _ _ _ => trivial, fun _ _ _ _ _ _ _ _ _ _ _ => trivial, fun _ _ _ _ _ _ _ _ _ _ _ => trivial, trivial⟩
  · refine ⟨?_, ?_, ?_, ?_, ?_, ?_, ?_, ?_, ?_, ?_, ?_, ?_, ?_, ?_, ?_, trivial⟩
    · intro T df v zz zB zp zC
      have qb := zB.1
      have zU := zB.2
      exact ⟨true, want_none rfl, fun _ => .inl ⟨_, _, ex_move rfl (qb.e (j := 0) rfl), Upd.refl _ _, fun h => absurd h (by decide), fun T2 N => N.s 47 rfl⟩, fun h => absurd h (by decide), fun h => absurd h (by decide)⟩
    · intro T df v zz zB zp zC
      have qb := zB.1
      have zU := zB.2
      exact ⟨true, want_none rfl, fun _ => .inl ⟨_, _, ex_move rfl (qb.e (j := 10) rfl), Upd.refl _ _, fun h => absurd h (by decide), fun T2 N => N.s 48 rfl⟩, fun h => absurd h (by decide), fun h => absurd h (by decide)⟩
    · intro T df v zz zB zp zC
      have qb := zB.1
      have zU := zB.2
      have p0 : T[47]? = some (gw true (.slice (some ⟨kq6, ko7, none⟩) n c)) := zp 0 (by kernel_rfl) (by kernel_rfl)
      have p1 : T[48]? = some (gw true (.int .i64 ((lft n : Nat) : Int))) := zp 1 (by kernel_rfl) (by kernel_rfl)
      exact ⟨true, want_none rfl, fun _ => .inl ⟨_, _, ex_sl19 rfl (ev p0 rfl) rfl (congrArg some (ev p1 rfl)) rfl (slToE20 kq6 ko7 n c (lft n) (by omega) (ckq6) _), Upd.refl _ _, fun h => absurd h (by decide), fun T2 N => N.s 49 rfl⟩, fun h => absurd h (by decide), fun h => absurd h (by decide)⟩
    · intro T df v zz zB zp zC
      have qb := zB.1
      have zU := zB.2
      exact ⟨true, want_none rfl, fun _ => .inl ⟨_, _, ex_move rfl (qb.e (j := 1) rfl), Upd.refl _ _, fun h => absurd h (by decide), fun T2 N => N.s 50 rfl⟩, fun h => absurd h (by decide), fun h => absurd h (by decide)⟩
    · intro T df v zz zB zp zC
      have qb := zB.1
      have zU := zB.2
      exact ⟨true, want_none rfl, fun _ => .inl ⟨_, _, ex_ld rfl (qb.e (j := 6) rfl) (B10.upd zU (show ¬ False from id)).ldE20, Upd.refl _ _, fun h => absurd h (by decide), fun T2 N => N.s 51 rfl⟩, fun h => absurd h (by decide), fun h => absurd h (by decide)⟩
    · intro T df v zz zB zp zC
      have qb := zB.1
      have zU := zB.2
      exact ⟨true, want_none rfl, fun _ => .inl ⟨_, _, ex_move rfl (qb.e (j := 3) rfl), Upd.refl _ _, fun h => absurd h (by decide), fun T2 N => N.s 52 rfl⟩, fun h => absurd h (by decide), fun h => absurd h (by decide)⟩
    · intro T df v zz zB zp zC
      have qb := zB.1
      have zU := zB.2
      exact ⟨true, want_none rfl, fun _ => .inl ⟨_, _, ex_move rfl (qb.e (j := 11) rfl), Upd.refl _ _, fun h => absurd h (by decide), fun T2 N => N.s 53 rfl⟩, fun h => absurd h (by decide), fun h => absurd h (by decide)⟩
    · intro T df v zz zB zp zC
      have qb := zB.1
      have zU := zB.2
      have p5 : T[52]? = some (gw true (.slice (some ⟨kq8, ko9, none⟩) k c3)) := zp 5 (by kernel_rfl) (by kernel_rfl)
      have p6 : T[53]? = some (gw true (.int .i64 ((k - 1 : Nat) : Int))) := zp 6 (by kernel_rfl) (by kernel_rfl)
      exact ⟨true, want_none rfl, fun _ => .inl ⟨_, _, ex_sl19 rfl (ev p5 rfl) rfl (congrArg some (ev p6 rfl)) rfl (slToH kq8 ko9 k c3 (k - 1) (by omega) (ckq8) _), Upd.refl _ _, fun h => absurd h (by decide), fun T2 N => N.s 54 rfl⟩, fun h => absurd h (by decide), fun h => absurd h (by decide)⟩
    · intro T df v zz zB zp zC
      have qb := zB.1
      have zU := zB.2
      have zDw : Below w.heap.size w v := d4.trans (zU.below d4.size (fun k hk => hk.elim))
      have p2 : T[49]? = some (gw true (.slice (some ⟨kq6, ko7, none⟩) (lft n) c)) := zp 2 (by kernel_rfl) (by kernel_rfl)
      have p3 : T[50]? = some (gw true (.int .i64 ((p : Nat) : Int))) := zp 3 (by kernel_rfl) (by kernel_rfl)
      have p4 : T[51]? = some (gw true (x.val20)) := zp 4 (by kernel_rfl) (by kernel_rfl)
      have p7 : T[54]? = some (gw true (.slice (some ⟨kq8, ko9, none⟩) (k - 1) c3)) := zp 7 (by kernel_rfl) (by kernel_rfl)
      refine ⟨true, want_none rfl, fun hc => .inr (.inr ⟨_, _, _, ex_call rfl (by simp only [List.map_toArray, List.map_cons, List.map_nil, (ev p2 rfl), (ev p3 rfl), (ev p4 rfl), (ev p7 rfl), evc] <;> rfl) rfl, c1 _ _ _ _ v ((hL.later zDw).take (lft n) (by omega)) ((hP.later zDw).take (k - 1) (by omega)), ?_⟩), fun _ => rfl, fun h => absurd h (by decide)⟩
      rintro e w9 ⟨rfl, b9⟩
      exact ⟨_, rfl, Upd.of_below b9, fun h => absurd h (by decide), fun T2 N => N.s 55 rfl⟩
    · intro T df v zz zB zp zC
      have qb := zB.1
      have zU := zB.2
      have p8 : T[55]? = some (gw true (.tuple #[(cl (lf x) p (lft n) (P.take (k - 1))).val, .bool (F1)])) := zp 8 (by kernel_rfl) (by kernel_rfl)
      exact ⟨true, want_none rfl, fun _ => .inl ⟨_, _, ex_move rfl (ev p8 rfl), Upd.refl _ _, fun h => absurd h (by decide), fun T2 N => N.s 46 rfl⟩, fun h => absurd h (by decide), fun h => absurd h (by decide)⟩
    · intro T df v zz zB zp zC
      have qb := zB.1
      have zU := zB.2
      have p9 : T[46]? = some (gw true (.tuple #[(cl (lf x) p (lft n) (P.take (k - 1))).val, .bool (F1)])) := zp 9 (by kernel_rfl) (by kernel_rfl)
      exact ⟨true, want_none rfl, fun _ => .inl ⟨_, _, ex_ext18 rfl (ev p9 rfl) rfl, Upd.refl _ _, fun h => absurd h (by decide), fun T2 N => N.s 56 rfl⟩, fun h => absurd h (by decide), fun h => absurd h (by decide)⟩
    · intro T df v zz zB zp zC
      have qb := zB.1
      have zU := zB.2
      have p9 : T[46]? = some (gw true (.tuple #[(cl (lf x) p (lft n) (P.take (k - 1))).val, .bool (F1)])) := zp 9 (by kernel_rfl) (by kernel_rfl)
      exact ⟨true, want_none rfl, fun _ => .inl ⟨_, _, ex_ext18 rfl (ev p9 rfl) rfl, Upd.refl _ _, fun h => absurd h (by decide), fun T2 N => N.s 57 rfl⟩, fun h => absurd h (by decide), fun h => absurd h (by decide)⟩
    · intro T df v zz zB zp zC
      have qb := zB.1
      have zU := zB.2
      exact ⟨_, want_none rfl, fun _ => .inl ⟨_, _, ex_al rfl (alH _), Upd.of_below ((Below.refl _ _).alloc (Nat.le_refl _) _), fun _ => ⟨_, rfl, Nat.le_refl _, by rw [World.size_alloc]; exact Nat.lt_succ_self _⟩, fun T2 N => ⟨_, N.s 12 rfl, BB.new _ _ _, zU.size⟩⟩, fun h => absurd h (by decide), fun h => absurd h (by decide)⟩
    · intro T df v zz zB zp zC
      have qb := zB.1
      have zU := zB.2
      have p10 : T[56]? = some (gw true ((cl (lf x) p (lft n) (P.take (k - 1))).val)) := zp 10 (by kernel_rfl) (by kernel_rfl)
      have p12 : ∃ b : Nat, T[12]? = some (gw true (.pointer (some ⟨b, 0, none⟩))) ∧ BB v b 24 (zH.cs) ∧ w3.heap.size ≤ b := zp 12 (by kernel_rfl) (by kernel_rfl)
      obtain ⟨b, pb, Bb, lb⟩ := p12
      have e1 : ptr T 12 = b := by unfold ptr; rw [pb]; rfl
      exact ⟨_, want_none rfl, fun _ => .inr (.inl ⟨_, ex_st rfl (ev pb rfl) (ev p10 rfl) (Bb.stH rfl _), (upd18 _ _ _ _).sub20 (fun k hk => by have hk2 : k = b := hk; show (13 = 13 ∧ k = ptr T 12 ∧ w3.heap.size ≤ k); omega), fun h => absurd h (by decide), fun T2 N => ⟨b, (N.k 12 rfl).trans pb, Bb.putH rfl _, lb⟩⟩), fun h => absurd h (by decide), fun h => absurd h (by decide)⟩
    · intro T df v zz zB zp zC
      have qb := zB.1
      have zU := zB.2
      have p11 : T[57]? = some (gw true (.bool (F1))) := zp 11 (by kernel_rfl) (by kernel_rfl)
      exact ⟨true, want_none rfl, fun _ => .inl ⟨_, _, ex_assign rfl (ev p11 rfl), Upd.refl _ _, fun h => absurd h (by decide), fun T2 N => N.s 13 rfl⟩, fun h => absurd h (by decide), fun h => absurd h (by decide)⟩
  intro T v11 zz zB zq za
  have qb := zB.1
  have U12 := zB.2
  clear zB zz
  clear q17
  have d13 : Below w.heap.size w v11 := d4.trans (U12.below (Nat.le_trans d4.size (Nat.le_refl _)) (fun k hk => hk.elim))
  have zv11 := U12.size
  obtain ⟨b14, p13, Bb14, lb14⟩ : ∃ b : Nat, T[12]? = some (gw true (.pointer (some ⟨b, 0, none⟩))) ∧ BB v11 b 24 ((cl (lf x) p (lft n) (P.take (k - 1))).cs) ∧ w3.heap.size ≤ b := zq 13 _ rfl (fun k => rfl)
  have ltb14 := Bb14.lt
  have p14 : T[13]? = some (gw true (.bool (F1))) := zq 14 _ rfl (fun k => rfl)
  have q18 := ((qb.cons p13).cons p14)
  clear zq za qb p13 p14
  go_upto_region 7 with fail
  refine vp_start 108 (fun T v => Rp T 108 [(0, gw true (.slice (some ⟨kq6, ko7, none⟩) n c)), (1, gw true (.int .i64 ((p : Nat) : Int))), (3, gw true (.slice (some ⟨kq8, ko9, none⟩) k c3)), (6, gw true (.pointer (some ⟨w.heap.size, 0, none⟩))), (8, gw true (.pointer (some ⟨w1.heap.size, 0, none⟩))), (9, gw true (.bool false)), (10, gw true (.int .i64 ((lft n : Nat) : Int))), (11, gw true (.int .i64 ((k - 1 : Nat) : Int))), (12, gw true (.pointer (some ⟨b14, 0, none⟩))), (13, gw true (.bool (F1))), (20, gw true (.bool false)), (45, gw true (.bool true))] ∧ Upd (fun k => False) v11 v) (fun (i : Nat) (T : Array Value) (v : World) => match i with | 0 => T[58]? = some (gw true ((cl (lf x) p (lft n) (P.take (k - 1))).val)) | 1 => T[59]? = some (gw true (.slice (some ⟨kq8, ko9, none⟩) k c3)) | 2 => T[60]? = some (gw true (.int .i64 ((k - 1 : Nat) : Int))) | 3 => T[61]? = some (gw true (.pointer (some ⟨kq8, ko9 + (k - 1) * 32, none⟩))) | 4 => T[62]? = some (gw true (tp.val)) | 5 => T[63]? = some (gw true (pval (cl (lf x) p (lft n) (P.take (k - 1))) tp)) | 6 => ∃ b : Nat, T[14]? = some (gw true (.pointer (some ⟨b, 0, none⟩))) ∧ BB v b 95 (pz) ∧ v11.heap.size ≤ b | 7 => ∃ b : Nat, T[14]? = some (gw true (.pointer (some ⟨b, 0, none⟩))) ∧ BB v b 95 (pcs (cl (lf x) p (lft n) (P.take (k - 1))) tp) ∧ v11.heap.size ≤ b | _ => True) (fun (i : Nat) (T : Array Value) (v : World) => match i with | _ => True) (fun j T k => (j = 7 ∧ k = ptr T 14 ∧ v11.heap.size ≤ k)) (fun i => match i with | 0 => [58] | 1 => [59] | 2 => [60] | 3 => [61] | 4 => [62] | 5 => [63] | 6 => [14] | 7 => [14] | _ => []) (fun _ => []) [0, 1, 3, 6, 8, 9, 10, 11, 12, 13, 20, 45] (fun i j => (Nat.beq i 6 && Nat.beq j 7)) (fun i => Nat.beq i 6) (by kernel_rfl) (by kernel_rfl) q18.z ⟨(((((((((((((Rp.nil q18.z).cons (q18.a 45 rfl)).cons (q18.a 20 rfl)).cons (q18.a 13 rfl)).cons (q18.a 12 rfl)).cons (q18.a 11 rfl)).cons (q18.a 10 rfl)).cons (q18.a 9 rfl)).cons (q18.a 8 rfl)).cons (q18.a 6 rfl)).cons (q18.a 3 rfl)).cons (q18.a 1 rfl)).cons (q18.a 0 rfl)), (Upd.refl _ _).drew20⟩ ?_ ?_ ?_ ?_ ?_ ?_
  · exact ⟨trivial, trivial, trivial, trivial, trivial, trivial, trivial, trivial, trivial⟩
  · intro j T T2 v v2 h _ hz hk hu
    exact ⟨h.1.ch hz hk, h.2.tr20 hu (fun k hk he => by have he2 : (j = 7 ∧ k = ptr T 14 ∧ v11.heap.size ≤ k) := he; show False; omega)⟩
  · refine ⟨?_, ?_, ?_, ?_, ?_, ?_, ?_, ?_, trivial⟩
    · exact fun j hj hu T T2 v v2 h hD hz hk zU => (hk 58 (List.mem_singleton.2 rfl)).trans h
    · exact fun j hj hu T T2 v v2 h hD hz hk zU => (hk 59 (List.mem_singleton.2 rfl)).trans h
    · exact fun j hj hu T T2 v v2 h hD hz hk zU => (hk 60 (List.mem_singleton.2 rfl)).trans h
    · exact fun j hj hu T T2 v v2 h hD hz hk zU => (hk 61 (List.mem_singleton.2 rfl)).trans h
    · exact fun j hj hu T T2 v v2 h hD hz hk zU => (hk 62 (List.mem_singleton.2 rfl)).trans h
    · exact fun j hj hu T T2 v v2 h hD hz hk zU => (hk 63 (List.mem_singleton.2 rfl)).trans h
    · intro j hj hu T T2 v v2 h hD hz hk zU
      obtain ⟨b, pb, Bb, lb⟩ := h
      have e1 : ptr T 14 = b := by unfold ptr; rw [pb]; rfl
      have n7 : j ≠ 7 := fun e => by subst e; exact absurd hu (by decide)
      exact ⟨b, (hk 14 (List.mem_singleton.2 rfl)).trans pb, Bb.upd zU (fun he => by have he2 : (j = 7 ∧ b = ptr T 14 ∧ v11.heap.size ≤ b) := he; omega), lb⟩
    · intro j hj hu T T2 v v2 h hD hz hk zU
      obtain ⟨b, pb, Bb, lb⟩ := h
      have e1 : ptr T 14 = b := by unfold ptr; rw [pb]; rfl
      exact ⟨b, (hk 14 (List.mem_singleton.2 rfl)).trans pb, Bb.upd zU (fun he => by have he2 : (j = 7 ∧ b = ptr T 14 ∧ v11.heap.size ≤ b) := he; omega), lb⟩
  · refine ⟨fun _ _ _ _ _ _ _ _ _ _ _ => trivial, fun _ _ _ _ _ _ _ _ _ _ _ => trivial, fun _ _ _ _ _ _ _ _ _ _ _ => trivial, fun _ _ _ _ _ _ _ _ _ _ _ => trivial, fun _ _ _ _ _ _ _ _ _ _ _ => trivial, fun _ _ _ _ _ _ _ _ _ _ _ => trivial, fun _ _ _ _ _ _ _ _ _ _ _ => trivial, fun _ _ _ _ _ _ _ _ _ _ _ => trivial, trivial⟩
  · refine ⟨?_, ?_, ?_, ?_, ?_, ?_, ?_, ?_, trivial⟩
    · intro T df v zz zB zp zC
      have qb := zB.1
      have zU := zB.2
      exact ⟨true, want_none rfl, fun _ => .inl ⟨_, _, ex_ld rfl (qb.e (j := 12) rfl) (Bb14.upd zU (show ¬ False from id)).ldH, Upd.refl _ _, fun h => absurd h (by decide), fun T2 N => N.s 58 rfl⟩, fun h => absurd h (by decide), fun h => absurd h (by decide)⟩
    · intro T df v zz zB zp zC
      have qb := zB.1
      have zU := zB.2
      exact ⟨true, want_none rfl, fun _ => .inl ⟨_, _, ex_move rfl (qb.e (j := 3) rfl), Upd.refl _ _, fun h => absurd h (by decide), fun T2 N => N.s 59 rfl⟩, fun h => absurd h (by decide), fun h => absurd h (by decide)⟩
    · intro T df v zz zB zp zC
      have qb := zB.1
      have zU := zB.2
      exact ⟨true, want_none rfl, fun _ => .inl ⟨_, _, ex_move rfl (qb.e (j := 11) rfl), Upd.refl _ _, fun h => absurd h (by decide), fun T2 N => N.s 60 rfl⟩, fun h => absurd h (by decide), fun h => absurd h (by decide)⟩
    · intro T df v zz zB zp zC
      have qb := zB.1
      have zU := zB.2
      have p1 : T[59]? = some (gw true (.slice (some ⟨kq8, ko9, none⟩) k c3)) := zp 1 (by kernel_rfl) (by kernel_rfl)
      have p2 : T[60]? = some (gw true (.int .i64 ((k - 1 : Nat) : Int))) := zp 2 (by kernel_rfl) (by kernel_rfl)
      exact ⟨true, want_none rfl, fun _ => .inl ⟨_, _, ex_ix rfl (ev p1 rfl) (ev p2 rfl) (ixH kq8 ko9 k c3 (k - 1) (by omega) _), Upd.refl _ _, fun h => absurd h (by decide), fun T2 N => N.s 61 rfl⟩, fun h => absurd h (by decide), fun h => absurd h (by decide)⟩
    · intro T df v zz zB zp zC
      have qb := zB.1
      have zU := zB.2
      have zDw : Below w.heap.size w v := d13.trans (zU.below d13.size (fun k hk => hk.elim))
      have p3 : T[61]? = some (gw true (.pointer (some ⟨kq8, ko9 + (k - 1) * 32, none⟩))) := zp 3 (by kernel_rfl) (by kernel_rfl)
      exact ⟨true, want_none rfl, fun _ => .inl ⟨_, _, ex_ld rfl (ev p3 rfl) (ldH20 (lkq8.upd (S := fun _ => False) (Upd.of_below zDw) hkq8 id) htp), Upd.refl _ _, fun h => absurd h (by decide), fun T2 N => N.s 62 rfl⟩, fun h => absurd h (by decide), fun h => absurd h (by decide)⟩
    · intro T df v zz zB zp zC
      have qb := zB.1
      have zU := zB.2
      have p0 : T[58]? = some (gw true ((cl (lf x) p (lft n) (P.take (k - 1))).val)) := zp 0 (by kernel_rfl) (by kernel_rfl)
      have p4 : T[62]? = some (gw true (tp.val)) := zp 4 (by kernel_rfl) (by kernel_rfl)
      exact ⟨true, want_none rfl, fun _ => .inl ⟨_, _, ex_bdP rfl (ev p0 rfl) (ev p4 rfl) (bdP _ _ _), Upd.refl _ _, fun h => absurd h (by decide), fun T2 N => N.s 63 rfl⟩, fun h => absurd h (by decide), fun h => absurd h (by decide)⟩
    · intro T df v zz zB zp zC
      have qb := zB.1
      have zU := zB.2
      exact ⟨_, want_none rfl, fun _ => .inl ⟨_, _, ex_al rfl (alP _), Upd.of_below ((Below.refl _ _).alloc (Nat.le_refl _) _), fun _ => ⟨_, rfl, Nat.le_refl _, by rw [World.size_alloc]; exact Nat.lt_succ_self _⟩, fun T2 N => ⟨_, N.s 14 rfl, BB.new _ _ _, zU.size⟩⟩, fun h => absurd h (by decide), fun h => absurd h (by decide)⟩
    · intro T df v zz zB zp zC
      have qb := zB.1
      have zU := zB.2
      have p5 : T[63]? = some (gw true (pval (cl (lf x) p (lft n) (P.take (k - 1))) tp)) := zp 5 (by kernel_rfl) (by kernel_rfl)
      have p6 : ∃ b : Nat, T[14]? = some (gw true (.pointer (some ⟨b, 0, none⟩))) ∧ BB v b 95 (pz) ∧ v11.heap.size ≤ b := zp 6 (by kernel_rfl) (by kernel_rfl)
      obtain ⟨b, pb, Bb, lb⟩ := p6
      have e1 : ptr T 14 = b := by unfold ptr; rw [pb]; rfl
      exact ⟨_, want_none rfl, fun _ => .inr (.inl ⟨_, ex_st rfl (ev pb rfl) (ev p5 rfl) (Bb.stP rfl _ _), (upd18 _ _ _ _).sub20 (fun k hk => by have hk2 : k = b := hk; show (7 = 7 ∧ k = ptr T 14 ∧ v11.heap.size ≤ k); omega), fun h => absurd h (by decide), fun T2 N => ⟨b, (N.k 14 rfl).trans pb, Bb.whole _ (by rw [pcs_len]; rfl), lb⟩⟩), fun h => absurd h (by decide), fun h => absurd h (by decide)⟩
  intro T v15 zz zB zq za
  have qb := zB.1
  have U16 := zB.2
  clear zB zz
  clear q18
  have d17 : Below w.heap.size w v15 := d13.trans (U16.below (Nat.le_trans d13.size (Nat.le_refl _)) (fun k hk => hk.elim))
  have zv15 := U16.size
  obtain ⟨b18, p7, Bb18, lb18⟩ : ∃ b : Nat, T[14]? = some (gw true (.pointer (some ⟨b, 0, none⟩))) ∧ BB v15 b 95 (pcs (cl (lf x) p (lft n) (P.take (k - 1))) tp) ∧ v11.heap.size ≤ b := zq 7 _ rfl (fun k => rfl)
  have ltb18 := Bb18.lt
  have q19 := (qb.cons p7)
  clear zq za qb p7
  go_upto_region 8 with fail
  have B19 : BB v15 w1.heap.size 24 (zH.cs) := ((Bw3.upd U12 (show ¬ False from id)).upd U16 (show ¬ False from id))
  refine vp_start 108 (fun T v => Rp T 108 [(0, gw true (.slice (some ⟨kq6, ko7, none⟩) n c)), (1, gw true (.int .i64 ((p : Nat) : Int))), (3, gw true (.slice (some ⟨kq8, ko9, none⟩) k c3)), (6, gw true (.pointer (some ⟨w.heap.size, 0, none⟩))), (8, gw true (.pointer (some ⟨w1.heap.size, 0, none⟩))), (10, gw true (.int .i64 ((lft n : Nat) : Int))), (11, gw true (.int .i64 ((k - 1 : Nat) : Int))), (13, gw true (.bool (F1))), (14, gw true (.pointer (some ⟨b18, 0, none⟩))), (20, gw true (.bool false)), (45, gw true (.bool true))] ∧ Upd (fun k => k = w1.heap.size) v15 v) (fun (i : Nat) (T : Array Value) (v : World) => match i with | 0 => T[64]? = some (gw true (.pointer (some ⟨b18, 0, none⟩))) | 1 => T[65]? = some (gw true ((cl (lf x) p (lft n) (P.take (k - 1))).val)) | 2 => T[66]? = some (gw true (.pointer (some ⟨b18, 32, none⟩))) | 3 => T[67]? = some (gw true (tp.val)) | 4 => T[68]? = some (gw true ((nd (cl (lf x) p (lft n) (P.take (k - 1))) tp).val)) | 5 => T[69]? = some (gw true (.bool (F1))) | 6 => T[70]? = some (gw true (.bool (F1))) | 7 => T[71]? = some (gw (true && (F1 == false)) (pval (cl (lf x) p (lft n) (P.take (k - 1))) tp)) | 8 => T[72]? = some (gw (true && (F1 == false)) (.slice (some ⟨kq6, ko7, none⟩) n c)) | 9 => T[73]? = some (gw (true && (F1 == false)) (pval (hd ((L.map lf).take (lft n))) (hd ((L.map lf).drop (lft n))))) | 10 => T[74]? = some (gw (true && (F1 == false)) (.bool ((!(decide ((cl (lf x) p (lft n) (P.take (k - 1))).v = (hd ((L.map lf).take (lft n))).v) && decide (tp.v = (hd ((L.map lf).drop (lft n))).v))) && decide ((nd (cl (lf x) p (lft n) (P.take (k - 1))) tp).v = (nd (hd ((L.map lf).take (lft n))) (hd ((L.map lf).drop (lft n)))).v)))) | 11 => T[75]? = some (gw true (.bool (F1 || ((!(decide ((cl (lf x) p (lft n) (P.take (k - 1))).v = (hd ((L.map lf).take (lft n))).v) && decide (tp.v = (hd ((L.map lf).drop (lft n))).v))) && decide ((nd (cl (lf x) p (lft n) (P.take (k - 1))) tp).v = (nd (hd ((L.map lf).take (lft n))) (hd ((L.map lf).drop (lft n)))).v))))) | 12 => BB v w1.heap.size 24 ((nd (cl (lf x) p (lft n) (P.take (k - 1))) tp).cs) | 13 => T[9]? = some (gw true (.bool (F1 || ((!(decide ((cl (lf x) p (lft n) (P.take (k - 1))).v = (hd ((L.map lf).take (lft n))).v) && decide (tp.v = (hd ((L.map lf).drop (lft n))).v))) && decide ((nd (cl (lf x) p (lft n) (P.take (k - 1))) tp).v = (nd (hd ((L.map lf).take (lft n))) (hd ((L.map lf).drop (lft n)))).v))))) | _ => True) (fun (i : Nat) (T : Array Value) (v : World) => match i with | 12 => BB v w1.heap.size 24 (zH.cs) | _ => True) (fun j T k => (j = 12 ∧ k = w1.heap.size)) (fun i => match i with | 0 => [64] | 1 => [65] | 2 => [66] | 3 => [67] | 4 => [68] | 5 => [69] | 6 => [70] | 7 => [71] | 8 => [72] | 9 => [73] | 10 => [74] | 11 => [75] | 12 => [] | 13 => [9] | _ => []) (fun _ => []) [0, 1, 3, 6, 8, 10, 11, 13, 14, 20, 45] (fun i j => false) (fun i => false) (by kernel_rfl) (by kernel_rfl) q19.z ⟨((((((((((((Rp.nil q19.z).cons (q19.a 45 rfl)).cons (q19.a 20 rfl)).cons (q19.a 14 rfl)).cons (q19.a 13 rfl)).cons (q19.a 11 rfl)).cons (q19.a 10 rfl)).cons (q19.a 8 rfl)).cons (q19.a 6 rfl)).cons (q19.a 3 rfl)).cons (q19.a 1 rfl)).cons (q19.a 0 rfl)), (Upd.refl _ _).drew20⟩ ?_ ?_ ?_ ?_ ?_ ?_
  · exact ⟨trivial, trivial, trivial, trivial, trivial, trivial, trivial, trivial, trivial, trivial, trivial, trivial, B19.later (Below.refl _ _).drew, trivial, trivial⟩
  · intro j T T2 v v2 h _ hz hk hu
    exact ⟨h.1.ch hz hk, h.2.tr20 hu (fun k hk he => by have he2 : (j = 12 ∧ k = w1.heap.size) := he; show k = w1.heap.size; omega)⟩
  · refine ⟨?_, ?_, ?_, ?_, ?_, ?_, ?_, ?_, ?_, ?_, ?_, ?_, ?_, ?_, trivial⟩
    · exact fun j hj hu T T2 v v2 h hD hz hk zU => (hk 64 (List.mem_singleton.2 rfl)).trans h
    · exact fun j hj hu T T2 v v2 h hD hz hk zU => (hk 65 (List.mem_singleton.2 rfl)).trans h
    · exact fun j hj hu T T2 v v2 h hD hz hk zU => (hk 66 (List.mem_singleton.2 rfl)).trans h
    · exact fun j hj hu T T2 v v2 h hD hz hk zU => (hk 67 (List.mem_singleton.2 rfl)).trans h
    · exact fun j hj hu T T2 v v2 h hD hz hk zU => (hk 68 (List.mem_singleton.2 rfl)).trans h
    · exact fun j hj hu T T2 v v2 h hD hz hk zU => (hk 69 (List.mem_singleton.2 rfl)).trans h
    · exact fun j hj hu T T2 v v2 h hD hz hk zU => (hk 70 (List.mem_singleton.2 rfl)).trans h
    · exact fun j hj hu T T2 v v2 h hD hz hk zU => (hk 71 (List.mem_singleton.2 rfl)).trans h
    · exact fun j hj hu T T2 v v2 h hD hz hk zU => (hk 72 (List.mem_singleton.2 rfl)).trans h
    · exact fun j hj hu T T2 v v2 h hD hz hk zU => (hk 73 (List.mem_singleton.2 rfl)).trans h
    · exact fun j hj hu T T2 v v2 h hD hz hk zU => (hk 74 (List.mem_singleton.2 rfl)).trans h
    · exact fun j hj hu T T2 v v2 h hD hz hk zU => (hk 75 (List.mem_singleton.2 rfl)).trans h
    · intro j hj hu T T2 v v2 h hD hz hk zU
      exact BB.upd h zU (fun he => by have he2 : (j = 12 ∧ w1.heap.size = w1.heap.size) := he; omega)
    · exact fun j hj hu T T2 v v2 h hD hz hk zU => (hk 9 (List.mem_singleton.2 rfl)).trans h
  · refine ⟨fun _ _ _ _ _ _ _ _ _ _ _ => trivial, fun _ _ _ _ _ _ _ _ _ _ _ => trivial, fun _ _ _ _ _ _ _ _ _ _ _ => trivial, fun _ _ _ _ _ _ _ _ _ _ _ => trivial, fun _ _ _ _ _ _ _ _ _ _ _ => trivial, fun _ _ _ _ _ _ _ _ _ _ _ => trivial, fun _ _ _ _ _ _ _ _ _ _ _ => trivial, fun _ _ _ _ _ _ _ _ _ _ _ => trivial, fun _ _ _ _ _ _ _ _ _ _ _ => trivial, fun _ _ _ _ _ _ _ _ _ _ _ => trivial, fun _ _ _ _ _ _ _ _ _ _ _ => trivial, fun _ _ _ _ _ _ _ _ _ _ _ => trivial, ?_, fun _ _ _ _ _ _ _ _ _ _ _ => trivial, trivial⟩
    · exact fun j hj T T2 v v2 h _ hz hk zU => BB.upd h zU (fun he => by have he2 : (j = 12 ∧ w1.heap.size = w1.heap.size) := he; omega)
  · refine ⟨?_, ?_, ?_, ?_, ?_, ?_, ?_, ?_, ?_, ?_, ?_, ?_, ?_, ?_, trivial⟩
    · intro T df v zz zB zp zC
      have qb := zB.1
      have zU := zB.2
      exact ⟨true, want_none rfl, fun _ => .inl ⟨_, _, ex_fa rfl (qb.e (j := 14) rfl) (faP _ _ _ (.inl ⟨rfl, rfl⟩) _), Upd.refl _ _, fun h => absurd h (by decide), fun T2 N => N.s 64 rfl⟩, fun h => absurd h (by decide), fun h => absurd h (by decide)⟩
    · intro T df v zz zB zp zC
      have qb := zB.1
      have zU := zB.2
      have p0 : T[64]? = some (gw true (.pointer (some ⟨b18, 0, none⟩))) := zp 0 (by kernel_rfl) (by kernel_rfl)
      exact ⟨true, want_none rfl, fun _ => .inl ⟨_, _, ex_ld rfl (ev p0 rfl) (Bb18.upd zU (show ¬ (b18 = w1.heap.size) by omega)).ldA, Upd.refl _ _, fun h => absurd h (by decide), fun T2 N => N.s 65 rfl⟩, fun h => absurd h (by decide), fun h => absurd h (by decide)⟩
    · intro T df v zz zB zp zC
      have qb := zB.1
      have zU := zB.2
      exact ⟨true, want_none rfl, fun _ => .inl ⟨_, _, ex_fa rfl (qb.e (j := 14) rfl) (faP _ _ _ (.inr ⟨rfl, rfl⟩) _), Upd.refl _ _, fun h => absurd h (by decide), fun T2 N => N.s 66 rfl⟩, fun h => absurd h (by decide), fun h => absurd h (by decide)⟩
    · intro T df v zz zB zp zC
      have qb := zB.1
      have zU := zB.2
      have p2 : T[66]? = some (gw true (.pointer (some ⟨b18, 32, none⟩))) := zp 2 (by kernel_rfl) (by kernel_rfl)
      exact ⟨true, want_none rfl, fun _ => .inl ⟨_, _, ex_ld rfl (ev p2 rfl) (Bb18.upd zU (show ¬ (b18 = w1.heap.size) by omega)).ldB, Upd.refl _ _, fun h => absurd h (by decide), fun T2 N => N.s 67 rfl⟩, fun h => absurd h (by decide), fun h => absurd h (by decide)⟩
    · intro T df v zz zB zp zC
      have qb := zB.1
      have zU := zB.2
      have p1 : T[65]? = some (gw true ((cl (lf x) p (lft n) (P.take (k - 1))).val)) := zp 1 (by kernel_rfl) (by kernel_rfl)
      have p3 : T[67]? = some (gw true (tp.val)) := zp 3 (by kernel_rfl) (by kernel_rfl)
      refine ⟨true, want_none rfl, fun hc => .inr (.inr ⟨_, _, _, ex_call rfl (by simp only [List.map_toArray, List.map_cons, List.map_nil, (ev p1 rfl), (ev p3 rfl), evc] <;> rfl) rfl, node20 (cl (lf x) p (lft n) (P.take (k - 1))) tp v, ?_⟩), fun _ => rfl, fun h => absurd h (by decide)⟩
      rintro e w9 ⟨rfl, b9⟩
      exact ⟨_, rfl, Upd.of_below b9, fun h => absurd h (by decide), fun T2 N => N.s 68 rfl⟩
    · intro T df v zz zB zp zC
      have qb := zB.1
      have zU := zB.2
      exact ⟨true, want_none rfl, fun _ => .inl ⟨_, _, ex_move rfl (qb.e (j := 13) rfl), Upd.refl _ _, fun h => absurd h (by decide), fun T2 N => N.s 69 rfl⟩, fun h => absurd h (by decide), fun h => absurd h (by decide)⟩
    · intro T df v zz zB zp zC
      have qb := zB.1
      have zU := zB.2
      have p5 : T[69]? = some (gw true (.bool (F1))) := zp 5 (by kernel_rfl) (by kernel_rfl)
      exact ⟨true, want_none rfl, fun _ => .inl ⟨_, _, ex_move rfl (ev p5 rfl), Upd.refl _ _, fun h => absurd h (by decide), fun T2 N => N.s 70 rfl⟩, fun h => absurd h (by decide), fun h => absurd h (by decide)⟩
    · intro T df v zz zB zp zC
      have qb := zB.1
      have zU := zB.2
      have p6 : T[70]? = some (gw true (.bool (F1))) := zp 6 (by kernel_rfl) (by kernel_rfl)
      exact ⟨(true && (F1 == false)), want_g rfl rfl p6, fun hc => .inl ⟨_, _, ex_ld rfl (qb.e (j := 14) rfl) (Bb18.upd zU (show ¬ (b18 = w1.heap.size) by omega)).ldP, Upd.refl _ _, fun h => absurd h (by decide), fun T2 N => by rw [hc]; exact N.s 71 rfl⟩, fun _ => rfl, fun hc T2 N => by rw [hc]; exact N.s 71 rfl⟩
    · intro T df v zz zB zp zC
      have qb := zB.1
      have zU := zB.2
      have p6 : T[70]? = some (gw true (.bool (F1))) := zp 6 (by kernel_rfl) (by kernel_rfl)
      exact ⟨(true && (F1 == false)), want_g rfl rfl p6, fun hc => .inl ⟨_, _, ex_move rfl (qb.e (j := 0) rfl), Upd.refl _ _, fun h => absurd h (by decide), fun T2 N => by rw [hc]; exact N.s 72 rfl⟩, fun _ => rfl, fun hc T2 N => by rw [hc]; exact N.s 72 rfl⟩
    · intro T df v zz zB zp zC
      have qb := zB.1
      have zU := zB.2
      have zDw : Below w.heap.size w v := d17.trans (zU.below d17.size (fun k hk => by have hk2 : k = w1.heap.size := hk; omega))
      have p6 : T[70]? = some (gw true (.bool (F1))) := zp 6 (by kernel_rfl) (by kernel_rfl)
      have p8 : T[72]? = some (gw (true && (F1 == false)) (.slice (some ⟨kq6, ko7, none⟩) n c)) := zp 8 (by kernel_rfl) (by kernel_rfl)
      refine ⟨(true && (F1 == false)), want_g rfl rfl p6, fun hc => .inr (.inr ⟨_, _, _, ex_call rfl (by simp only [List.map_toArray, List.map_cons, List.map_nil, (ev p8 hc), evc] <;> rfl) rfl, halves20 _ _ _ _ v (hL.later zDw) (by omega) (by omega) hv, ?_⟩), fun _ => rfl, fun hc T2 N => by rw [hc]; exact N.s 73 rfl⟩
      rintro e w9 ⟨rfl, b9⟩
      exact ⟨_, rfl, Upd.of_below b9, fun h => absurd h (by decide), fun T2 N => by rw [hc]; exact N.s 73 rfl⟩
    · intro T df v zz zB zp zC
      have qb := zB.1
      have zU := zB.2
      have p6 : T[70]? = some (gw true (.bool (F1))) := zp 6 (by kernel_rfl) (by kernel_rfl)
      have p7 : T[71]? = some (gw (true && (F1 == false)) (pval (cl (lf x) p (lft n) (P.take (k - 1))) tp)) := zp 7 (by kernel_rfl) (by kernel_rfl)
      have p9 : T[73]? = some (gw (true && (F1 == false)) (pval (hd ((L.map lf).take (lft n))) (hd ((L.map lf).drop (lft n))))) := zp 9 (by kernel_rfl) (by kernel_rfl)
      refine ⟨(true && (F1 == false)), want_g rfl rfl p6, fun hc => .inr (.inr ⟨_, _, _, ex_call rfl (by simp only [List.map_toArray, List.map_cons, List.map_nil, (ev p7 hc), (ev p9 hc), evc] <;> rfl) rfl, one20 (cl (lf x) p (lft n) (P.take (k - 1))) tp (hd ((L.map lf).take (lft n))) (hd ((L.map lf).drop (lft n))) v, ?_⟩), fun _ => rfl, fun hc T2 N => by rw [hc]; exact N.s 74 rfl⟩
      rintro e w9 ⟨rfl, b9⟩
      exact ⟨_, rfl, Upd.of_below b9, fun h => absurd h (by decide), fun T2 N => by rw [hc]; exact N.s 74 rfl⟩
    · intro T df v zz zB zp zC
      have qb := zB.1
      have zU := zB.2
      have p6 : T[70]? = some (gw true (.bool (F1))) := zp 6 (by kernel_rfl) (by kernel_rfl)
      have p10 : T[74]? = some (gw (true && (F1 == false)) (.bool ((!(decide ((cl (lf x) p (lft n) (P.take (k - 1))).v = (hd ((L.map lf).take (lft n))).v) && decide (tp.v = (hd ((L.map lf).drop (lft n))).v))) && decide ((nd (cl (lf x) p (lft n) (P.take (k - 1))) tp).v = (nd (hd ((L.map lf).take (lft n))) (hd ((L.map lf).drop (lft n)))).v)))) := zp 10 (by kernel_rfl) (by kernel_rfl)
      exact ⟨true, want_none rfl, fun _ => .inl ⟨_, _, ex_or (c := true) (b := F1) (z := ((!(decide ((cl (lf x) p (lft n) (P.take (k - 1))).v = (hd ((L.map lf).take (lft n))).v) && decide (tp.v = (hd ((L.map lf).drop (lft n))).v))) && decide ((nd (cl (lf x) p (lft n) (P.take (k - 1))) tp).v = (nd (hd ((L.map lf).take (lft n))) (hd ((L.map lf).drop (lft n)))).v))) rfl p6 p10 rfl, Upd.refl _ _, fun h => absurd h (by decide), fun T2 N => N.s 75 rfl⟩, fun h => absurd h (by decide), fun h => absurd h (by decide)⟩
    · intro T df v zz zB zp zC
      have qb := zB.1
      have zU := zB.2
      have p4 : T[68]? = some (gw true ((nd (cl (lf x) p (lft n) (P.take (k - 1))) tp).val)) := zp 4 (by kernel_rfl) (by kernel_rfl)
      have hq : BB v w1.heap.size 24 (zH.cs) := zC 12 _ rfl (.inl rfl)
      exact ⟨_, want_none rfl, fun _ => .inr (.inl ⟨_, ex_st rfl (qb.e (j := 8) rfl) (ev p4 rfl) (hq.stH rfl _), (upd18 _ _ _ _).sub20 (fun k hk => by have hk2 : k = w1.heap.size := hk; show (12 = 12 ∧ k = w1.heap.size); omega), fun h => absurd h (by decide), fun T2 N => hq.putH rfl _⟩), fun h => absurd h (by decide), fun h => absurd h (by decide)⟩
    · intro T df v zz zB zp zC
      have qb := zB.1
      have zU := zB.2
      have p11 : T[75]? = some (gw true (.bool (F1 || ((!(decide ((cl (lf x) p (lft n) (P.take (k - 1))).v = (hd ((L.map lf).take (lft n))).v) && decide (tp.v = (hd ((L.map lf).drop (lft n))).v))) && decide ((nd (cl (lf x) p (lft n) (P.take (k - 1))) tp).v = (nd (hd ((L.map lf).take (lft n))) (hd ((L.map lf).drop (lft n)))).v))))) := zp 11 (by kernel_rfl) (by kernel_rfl)
      exact ⟨true, want_none rfl, fun _ => .inl ⟨_, _, ex_assign rfl (ev p11 rfl), Upd.refl _ _, fun h => absurd h (by decide), fun T2 N => N.s 9 rfl⟩, fun h => absurd h (by decide), fun h => absurd h (by decide)⟩
  intro T v20 zz zB zq za
  have qb := zB.1
  have U21 := zB.2
  clear zB zz
  clear q19
  have d22 : Below w.heap.size w v20 := d17.trans (U21.below (Nat.le_trans d17.size (Nat.le_refl _)) (fun k hk => by have hk2 : k = w1.heap.size := hk; omega))
  have zv20 := U21.size
  have B23 : BB v20 w1.heap.size 24 ((nd (cl (lf x) p (lft n) (P.take (k - 1))) tp).cs) := zq 12 _ rfl (fun k => rfl)
  have p13 : T[9]? = some (gw true (.bool (F1 || ((!(decide ((cl (lf x) p (lft n) (P.take (k - 1))).v = (hd ((L.map lf).take (lft n))).v) && decide (tp.v = (hd ((L.map lf).drop (lft n))).v))) && decide ((nd (cl (lf x) p (lft n) (P.take (k - 1))) tp).v = (nd (hd ((L.map lf).take (lft n))) (hd ((L.map lf).drop (lft n)))).v))))) := zq 13 _ rfl (fun k => rfl)
  have q20 := (qb.cons p13)
  clear zq za qb p13
  go_wp2
  exact bodyPost_ret (resHT20 rfl (q20.a 8 rfl) (q20.a 9 rfl) B23) rfl ⟨rfl, d22⟩
set_option maxHeartbeats 2000000 in
theorem climbs_r (L : List En) (n p : Nat) (x : En) (tp : Hs) (P : List Hs) (k : Nat) (htp : P[k - 1]? = some tp) (hk : 1 ≤ k) (hk2 : k ≤ 1000000000) (F1 : Bool) (c1 : ∀ (a : Option Addr) (c : Nat) (a3 : Option Addr) (c3 : Nat) (w : World), SlY yE w a (n - lft n) c (L.drop (lft n)) → SlY yH w a3 (k - 1) c3 (P.take (k - 1)) → Calls Try.prog 32 #[.slice a (n - lft n) c, .int .i64 ((p - lft n : Nat) : Int), x.val20, .slice a3 (k - 1) c3] w fun e w' => e = .returned (.tuple #[(cl (lf x) (p - lft n) (n - lft n) (P.take (k - 1))).val, .bool F1]) ∧ Below w.heap.size w w') (a : Option Addr) (c : Nat) (a3 : Option Addr) (c3 : Nat) (w : World) (hL : SlY yE w a n c L) (hP : SlY yH w a3 k c3 P) (hn : 2 ≤ n) (hn2 : n ≤ 1000000) (hp : lft n < p) (hpn : p ≤ n) (hv : ∀ x ∈ L, x.o.v.size ≤ 140737488352232) (hx : x.o.v.size ≤ 140737488352232) :
    Calls Try.prog 32 #[.slice a n c, .int .i64 ((p : Nat) : Int), x.val20, .slice a3 k c3] w fun e w' => e = .returned (.tuple #[(nd tp (cl (lf x) (p - lft n) (n - lft n) (P.take (k - 1)))).val, .bool (F1 || ((!(decide (tp.v = (hd ((L.map lf).take (lft n))).v) && decide ((cl (lf x) (p - lft n) (n - lft n) (P.take (k - 1))).v = (hd ((L.map lf).drop (lft n))).v))) && decide ((nd tp (cl (lf x) (p - lft n) (n - lft n) (P.take (k - 1)))).v = (nd (hd ((L.map lf).take (lft n))) (hd ((L.map lf).drop (lft n)))).v)))]) ∧ Below w.heap.size w w' := by
  have hb := lft_b (n := n) (by omega)
  go_enter Try.func32, Try.ntmps32
  go_upto_region 0 with fail
  refine wp_region_lit ?_
  refine vl_gen (fun T => Rp T 108 [(3, gw true (.slice a3 k c3)), (2, gw true (x.val20)), (1, gw true (.int .i64 ((p : Nat) : Int))), (0, gw true (.slice a n c))]) (((((Rp.nil rfl).cons rfl).cons rfl).cons rfl).cons rfl) (fun Z0 q0 => ?_)
  obtain ⟨w1, hw1⟩ : ∃ y, y = w.alloc (.cells (x.cs).toArray 28) := ⟨_, rfl⟩
  refine vw (.pointer (some ⟨w.heap.size, 0, none⟩)) w1 (want_none rfl) (ex_box18 rfl (q0.e (j := 2) rfl) (by rw [hw1]; exact bxE20 _ _)) rfl q0.z (by decide) (q0.k fun _ q1 => ?_);clear q0
  have Bw1 : BB w1 w.heap.size 28 (x.cs) := by rw [hw1]; exact BB.new _ _ _
  have bw1 : Below w.heap.size w w1 := by rw [hw1]; exact (Below.refl _ _).alloc (Nat.le_refl _) _
  have zw1 : w1.heap.size = w.heap.size + 1 := by rw [hw1]; exact World.size_alloc _ _
  clear hw1
  have d2 : Below w.heap.size w w1 := bw1
  obtain ⟨w3, hw3⟩ : ∃ y, y = w1.alloc (.cells (zH.cs).toArray 24) := ⟨_, rfl⟩
  refine vw (.pointer (some ⟨w1.heap.size, 0, none⟩)) w3 (want_none rfl) (ex_al rfl (by rw [hw3]; exact alH _)) rfl q1.z (by decide) (q1.k fun _ q2 => ?_);clear q1
  have Bw3 : BB w3 w1.heap.size 24 (zH.cs) := by rw [hw3]; exact BB.new _ _ _
  have bw3 : Below w1.heap.size w1 w3 := by rw [hw3]; exact (Below.refl _ _).alloc (Nat.le_refl _) _
  have zw3 : w3.heap.size = w1.heap.size + 1 := by rw [hw3]; exact World.size_alloc _ _
  clear hw3
  have d4 : Below w.heap.size w w3 := d2.trans (bw3.mono d2.size)
  refine q2.t (.bool false) (ex_assign rfl rfl) fun _ q3 => ?_;clear q2
  refine wpList_nil ?_
  go_upto_region 1 with fail
  refine wp_region_lit ?_
  refine q3.t (.slice a n c) (ex_move rfl (q3.e (j := 0) rfl)) fun _ q4 => ?_;clear q3
  refine q4.t (.int .i64 ((n : Nat) : Int)) (ex_lenG rfl rfl Try.underlying22 (q4.e (j := 18) rfl)) fun _ q5 => ?_;clear q4
  refine q5.t (.bool false) (ex_bin (Y := .int .i64 ((1 : Nat) : Int)) rfl (q5.e (j := 19) rfl) rfl (eqF20 _ _ (by omega) _)) fun _ q6 => ?_;clear q5
  refine wpList_nil ?_
  go_upto_region 3 with fail
  refine wp_cond_false (q6.e (j := 20) rfl) ?_
  go_upto_region 3 with fail
  refine wp_region_lit ?_
  refine q6.t (.slice a n c) (ex_move rfl (q6.e (j := 0) rfl)) fun _ q7 => ?_;clear q6
  refine q7.t (.int .i64 ((n : Nat) : Int)) (ex_lenG rfl rfl Try.underlying22 (q7.e (j := 37) rfl)) fun _ q8 => ?_;clear q7
  refine vcallP (want_none rfl) (ex_call rfl (by simp only [List.map_toArray, List.map_cons, List.map_nil, (q8.e (j := 38) rfl), evc] <;> rfl) rfl) (split20 n (by omega) (by omega) w3) rfl q8.z (by decide) ?_
  rintro e w5 ⟨rfl, hw5⟩
  refine ⟨_, rfl, q8.k fun _ q9 => ?_⟩;clear q8
  have hw5 := hw5.symm
  subst hw5
  refine q9.t (.int .i64 ((lft n : Nat) : Int)) (ex_assign rfl (q9.e (j := 39) rfl)) fun _ q10 => ?_;clear q9
  refine wpList_nil ?_
  have lL := hL.len
  obtain ⟨kq6, ko7, rfl, hkq6, lkq6⟩ := hL.place (by rintro rfl; simp at lL; omega)
  have ckq6 := hL.cap
  obtain ⟨kq8, ko9, rfl, hkq8, lkq8⟩ := hP.place (by rintro rfl; simp at htp)
  have ckq8 := hP.cap
  go_upto_region 4 with fail
  refine wp_region_lit ?_
  refine q10.t (.slice (some ⟨kq8, ko9, none⟩) k c3) (ex_move rfl (q10.e (j := 3) rfl)) fun _ q11 => ?_;clear q10
  refine q11.t (.int .i64 ((k : Nat) : Int)) (ex_lenG rfl rfl Try.underlying42 (q11.e (j := 40) rfl)) fun _ q12 => ?_;clear q11
  refine q12.t (.int .i64 ((k - 1 : Nat) : Int)) (ex_bin (Y := .int .i64 ((1 : Nat) : Int)) rfl (q12.e (j := 41) rfl) rfl (subP _ _ k 1 (by omega) (by omega) _)) fun _ q13 => ?_;clear q12
  refine q13.t (.int .i64 ((k - 1 : Nat) : Int)) (ex_assign rfl (q13.e (j := 42) rfl)) fun _ q14 => ?_;clear q13
  refine wpList_nil ?_
  go_upto_region 5 with fail
  refine wp_region_lit ?_
  refine q14.t (.int .i64 ((p : Nat) : Int)) (ex_move rfl (q14.e (j := 1) rfl)) fun _ q15 => ?_;clear q14
  refine q15.t (.int .i64 ((lft n : Nat) : Int)) (ex_move rfl (q15.e (j := 10) rfl)) fun _ q16 => ?_;clear q15
  refine q16.t (.bool false) (ex_bin rfl (q16.e (j := 43) rfl) (q16.e (j := 44) rfl) (leF20 _ _ (by omega) _)) fun _ q17 => ?_;clear q16
  refine wpList_nil ?_
  go_upto_region 9 with fail
  refine wp_cond_false (q17.e (j := 45) rfl) ?_
  go_upto_region 9 with fail
  have B10 : BB w3 w.heap.size 28 (x.cs) := (Bw1.later bw3)
  refine vp_start 108 (fun T v => Rp T 108 [(0, gw true (.slice (some ⟨kq6, ko7, none⟩) n c)), (1, gw true (.int .i64 ((p : Nat) : Int))), (3, gw true (.slice (some ⟨kq8, ko9, none⟩) k c3)), (6, gw true (.pointer (some ⟨w.heap.size, 0, none⟩))), (8, gw true (.pointer (some ⟨w1.heap.size, 0, none⟩))), (9, gw true (.bool false)), (10, gw true (.int .i64 ((lft n : Nat) : Int))), (11, gw true (.int .i64 ((k - 1 : Nat) : Int))), (20, gw true (.bool false)), (45, gw true (.bool false))] ∧ Upd (fun k => False) w3 v) (fun (i : Nat) (T : Array Value) (v : World) => match i with | 0 => T[77]? = some (gw true (.slice (some ⟨kq6, ko7, none⟩) n c)) | 1 => T[78]? = some (gw true (.int .i64 ((lft n : Nat) : Int))) | 2 => T[79]? = some (gw true (.slice (some (if c = lft n then ⟨kq6, ko7, none⟩ else ⟨kq6, ko7 + (lft n) * 5, none⟩)) (n - (lft n)) (c - (lft n)))) | 3 => T[80]? = some (gw true (.int .i64 ((p : Nat) : Int))) | 4 => T[81]? = some (gw true (.int .i64 ((lft n : Nat) : Int))) | 5 => T[82]? = some (gw true (.int .i64 ((p - (lft n) : Nat) : Int))) | 6 => T[83]? = some (gw true (x.val20)) | 7 => T[84]? = some (gw true (.slice (some ⟨kq8, ko9, none⟩) k c3)) | 8 => T[85]? = some (gw true (.int .i64 ((k - 1 : Nat) : Int))) | 9 => T[86]? = some (gw true (.slice (some ⟨kq8, ko9, none⟩) (k - 1) c3)) | 10 => T[87]? = some (gw true (.tuple #[(cl (lf x) (p - lft n) (n - lft n) (P.take (k - 1))).val, .bool (F1)])) | 11 => T[76]? = some (gw true (.tuple #[(cl (lf x) (p - lft n) (n - lft n) (P.take (k - 1))).val, .bool (F1)])) | 12 => T[88]? = some (gw true ((cl (lf x) (p - lft n) (n - lft n) (P.take (k - 1))).val)) | 13 => T[89]? = some (gw true (.bool (F1))) | 14 => ∃ b : Nat, T[15]? = some (gw true (.pointer (some ⟨b, 0, none⟩))) ∧ BB v b 24 (zH.cs) ∧ w3.heap.size ≤ b | 15 => ∃ b : Nat, T[15]? = some (gw true (.pointer (some ⟨b, 0, none⟩))) ∧ BB v b 24 ((cl (lf x) (p - lft n) (n - lft n) (P.take (k - 1))).cs) ∧ w3.heap.size ≤ b | 16 => T[16]? = some (gw true (.bool (F1))) | _ => True) (fun (i : Nat) (T : Array Value) (v : World) => match i with | _ => True) (fun j T k => (j = 15 ∧ k = ptr T 15 ∧ w3.heap.size ≤ k)) (fun i => match i with | 0 => [77] | 1 => [78] | 2 => [79] | 3 => [80] | 4 => [81] | 5 => [82] | 6 => [83] | 7 => [84] | 8 => [85] | 9 => [86] | 10 => [87] | 11 => [76] | 12 => [88] | 13 => [89] | 14 => [15] | 15 => [15] | 16 => [16] | _ => []) (fun _ => []) [0, 1, 3, 6, 8, 9, 10, 11, 20, 45] (fun i j => (Nat.beq i 14 && Nat.beq j 15)) (fun i => Nat.beq i 14) (by kernel_rfl) (by kernel_rfl) q17.z ⟨(((((((((((Rp.nil q17.z).cons (q17.a 45 rfl)).cons (q17.a 20 rfl)).cons (q17.a 11 rfl)).cons (q17.a 10 rfl)).cons (q17.a 9 rfl)).cons (q17.a 8 rfl)).cons (q17.a 6 rfl)).cons (q17.a 3 rfl)).cons (q17.a 1 rfl)).cons (q17.a 0 rfl)), (Upd.refl _ _).drew20⟩ ?_ ?_ ?_ ?_ ?_ ?_
  · exact ⟨trivial, trivial, trivial, trivial, trivial, trivial, trivial, trivial, trivial, trivial, trivial, trivial, trivial, trivial, trivial, trivial, trivial, trivial⟩
  · intro j T T2 v v2 h _ hz hk hu
    exact ⟨h.1.ch hz hk, h.2.tr20 hu (fun k hk he => by have he2 : (j = 15 ∧ k = ptr T 15 ∧ w3.heap.size ≤ k) := he; show False; omega)⟩
  · refine ⟨?_, ?_, ?_, ?_, ?_, ?_, ?_, ?_, ?_, ?_, ?_, ?_, ?_, ?_, ?_, ?_, ?_, trivial⟩
    · exact fun j hj hu T T2 v v2 h hD hz hk zU => (hk 77 (List.mem_singleton.2 rfl)).trans h
    · exact fun j hj hu T T2 v v2 h hD hz hk zU => (hk 78 (List.mem_singleton.2 rfl)).trans h
    · exact fun j hj hu T T2 v v2 h hD hz hk zU => (hk 79 (List.mem_singleton.2 rfl)).trans h
    · exact fun j hj hu T T2 v v2 h hD hz hk zU => (hk 80 (List.mem_singleton.2 rfl)).trans h
    · exact fun j hj hu T T2 v v2 h hD hz hk zU => (hk 81 (List.mem_singleton.2 rfl)).trans h
    · exact fun j hj hu T T2 v v2 h hD hz hk zU => (hk 82 (List.mem_singleton.2 rfl)).trans h
    · exact fun j hj hu T T2 v v2 h hD hz hk zU => (hk 83 (List.mem_singleton.2 rfl)).trans h
    · exact fun j hj hu T T2 v v2 h hD hz hk zU => (hk 84 (List.mem_singleton.2 rfl)).trans h
    · exact fun j hj hu T T2 v v2 h hD hz hk zU => (hk 85 (List.mem_singleton.2 rfl)).trans h
    · exact fun j hj hu T T2 v v2 h hD hz hk zU => (hk 86 (List.mem_singleton.2 rfl)).trans h
    · exact fun j hj hu T T2 v v2 h hD hz hk zU => (hk 87 (List.mem_singleton.2 rfl)).trans h
    · exact fun j hj hu T T2 v v2 h hD hz hk zU => (hk 76 (List.mem_singleton.2 rfl)).trans h
    · exact fun j hj hu T T2 v v2 h hD hz hk zU => (hk 88 (List.mem_singleton.2 rfl)).trans h
    · exact fun j hj hu T T2 v v2 h hD hz hk zU => (hk 89 (List.mem_singleton.2 rfl)).trans h
    · intro j hj hu T T2 v v2 h hD hz hk zU
      obtain ⟨b, pb, Bb, lb⟩ := h
      have e1 : ptr T 15 = b := by unfold ptr; rw [pb]; rfl
      have n15 : j ≠ 15 := fun e => by subst e; exact absurd hu (by decide)
      exact ⟨b, (hk 15 (List.mem_singleton.2 rfl)).trans pb, Bb.upd zU (fun he => by have he2 : (j = 15 ∧ b = ptr T 15 ∧ w3.heap.size ≤ b) := he; omega), lb⟩
    · intro j hj hu T T2 v v2 h hD hz hk zU
      obtain ⟨b, pb, Bb, lb⟩ := h
      have e1 : ptr T 15 = b := by unfold ptr; rw [pb]; rfl
      exact ⟨b, (hk 15 (List.mem_singleton.2 rfl)).trans pb, Bb.upd zU (fun he => by have he2 : (j = 15 ∧ b = ptr T 15 ∧ w3.heap.size ≤ b) := he; omega), lb⟩
    · exact fun j hj hu T T2 v v2 h hD hz hk zU => (hk 16 (List.mem_singleton.2 rfl)).trans h
  · refine ⟨fun _ _ _ _ _ _ _ _ _ _ _ => trivial, fun _ _ _ _ _ _ _ _ _ _ _ => trivial, fun _ _ _ _ _ _ _ _ _ _ _ => trivial, fun _ _ _ _ _ _ _ _ _ _ _ => trivial, fun _ _ _ _ _ _ _ _ _ _ _ => trivial, fun _ _ _ _ _ _ _ _ _ _ _ => trivial, fun _ _ _ _ _ _ _ _ _ _ _ => trivial, fun _ _ _ _ _ _ _ _ _ _ _ => trivial, fun _ _ _ _ _ _ _ _ _ _ _ => trivial, fun _ _ _ _ _ _ _ _ _ _ _ => trivial, fun _ _ _ _ _ _ _ _ _ _ _ => trivial, fun _ _ _ _ _ _ _ _ _ _ _ => trivial, fun _ _ _ _ _ _ _ _ _ _ _ => trivial, fun _ _ _ _ _ _ _ _ _ _ _ => trivial, fun _ _ _ _ _ _ _ _ _ _ _ => trivial, fun _ _ _ _ _ _ _ _ _ _ _ => trivial, fun _ _ _ _ _ _ _ _ _ _ _ => trivial, trivial⟩
  · refine ⟨?_, ?_, ?_, ?_, ?_, ?_, ?_, ?_, ?_, ?_, ?_, ?_, ?_, ?_, ?_, ?_, ?_, trivial⟩
    · intro T df v zz zB zp zC
      have qb := zB.1
      have zU := zB.2
      exact ⟨true, want_none rfl, fun _ => .inl ⟨_, _, ex_move rfl (qb.e (j := 0) rfl), Upd.refl _ _, fun h => absurd h (by decide), fun T2 N => N.s 77 rfl⟩, fun h => absurd h (by decide), fun h => absurd h (by decide)⟩
    · intro T df v zz zB zp zC
      have qb := zB.1
      have zU := zB.2
      exact ⟨true, want_none rfl, fun _ => .inl ⟨_, _, ex_move rfl (qb.e (j := 10) rfl), Upd.refl _ _, fun h => absurd h (by decide), fun T2 N => N.s 78 rfl⟩, fun h => absurd h (by decide), fun h => absurd h (by decide)⟩
    · intro T df v zz zB zp zC
      have qb := zB.1
      have zU := zB.2
      have p0 : T[77]? = some (gw true (.slice (some ⟨kq6, ko7, none⟩) n c)) := zp 0 (by kernel_rfl) (by kernel_rfl)
      have p1 : T[78]? = some (gw true (.int .i64 ((lft n : Nat) : Int))) := zp 1 (by kernel_rfl) (by kernel_rfl)
      exact ⟨true, want_none rfl, fun _ => .inl ⟨_, _, ex_sl19 rfl (ev p0 rfl) (congrArg some (ev p1 rfl)) rfl rfl (slFromE20 kq6 ko7 n c (lft n) (by omega) (ckq6) _), Upd.refl _ _, fun h => absurd h (by decide), fun T2 N => N.s 79 rfl⟩, fun h => absurd h (by decide), fun h => absurd h (by decide)⟩
    · intro T df v zz zB zp zC
      have qb := zB.1
      have zU := zB.2
      exact ⟨true, want_none rfl, fun _ => .inl ⟨_, _, ex_move rfl (qb.e (j := 1) rfl), Upd.refl _ _, fun h => absurd h (by decide), fun T2 N => N.s 80 rfl⟩, fun h => absurd h (by decide), fun h => absurd h (by decide)⟩
    · intro T df v zz zB zp zC
      have qb := zB.1
      have zU := zB.2
      exact ⟨true, want_none rfl, fun _ => .inl ⟨_, _, ex_move rfl (qb.e (j := 10) rfl), Upd.refl _ _, fun h => absurd h (by decide), fun T2 N => N.s 81 rfl⟩, fun h => absurd h (by decide), fun h => absurd h (by decide)⟩
    · intro T df v zz zB zp zC
      have qb := zB.1
      have zU := zB.2
      have p3 : T[80]? = some (gw true (.int .i64 ((p : Nat) : Int))) := zp 3 (by kernel_rfl) (by kernel_rfl)
      have p4 : T[81]? = some (gw true (.int .i64 ((lft n : Nat) : Int))) := zp 4 (by kernel_rfl) (by kernel_rfl)
      exact ⟨true, want_none rfl, fun _ => .inl ⟨_, _, ex_bin rfl (ev p3 rfl) (ev p4 rfl) (subP _ _ p (lft n) (by omega) (by omega) _), Upd.refl _ _, fun h => absurd h (by decide), fun T2 N => N.s 82 rfl⟩, fun h => absurd h (by decide), fun h => absurd h (by decide)⟩
    · intro T df v zz zB zp zC
      have qb := zB.1
      have zU := zB.2
      exact ⟨true, want_none rfl, fun _ => .inl ⟨_, _, ex_ld rfl (qb.e (j := 6) rfl) (B10.upd zU (show ¬ False from id)).ldE20, Upd.refl _ _, fun h => absurd h (by decide), fun T2 N => N.s 83 rfl⟩, fun h => absurd h (by decide), fun h => absurd h (by decide)⟩
    · intro T df v zz zB zp zC
      have qb := zB.1
      have zU := zB.2
      exact ⟨true, want_none rfl, fun _ => .inl ⟨_, _, ex_move rfl (qb.e (j := 3) rfl), Upd.refl _ _, fun h => absurd h (by decide), fun T2 N => N.s 84 rfl⟩, fun h => absurd h (by decide), fun h => absurd h (by decide)⟩
    · intro T df v zz zB zp zC
      have qb := zB.1
      have zU := zB.2
      exact ⟨true, want_none rfl, fun _ => .inl ⟨_, _, ex_move rfl (qb.e (j := 11) rfl), Upd.refl _ _, fun h => absurd h (by decide), fun T2 N => N.s 85 rfl⟩, fun h => absurd h (by decide), fun h => absurd h (by decide)⟩
    · intro T df v zz zB zp zC
      have qb := zB.1
      have zU := zB.2
      have p7 : T[84]? = some (gw true (.slice (some ⟨kq8, ko9, none⟩) k c3)) := zp 7 (by kernel_rfl) (by kernel_rfl)
      have p8 : T[85]? = some (gw true (.int .i64 ((k - 1 : Nat) : Int))) := zp 8 (by kernel_rfl) (by kernel_rfl)
      exact ⟨true, want_none rfl, fun _ => .inl ⟨_, _, ex_sl19 rfl (ev p7 rfl) rfl (congrArg some (ev p8 rfl)) rfl (slToH kq8 ko9 k c3 (k - 1) (by omega) (ckq8) _), Upd.refl _ _, fun h => absurd h (by decide), fun T2 N => N.s 86 rfl⟩, fun h => absurd h (by decide), fun h => absurd h (by decide)⟩
    · intro T df v zz zB zp zC
      have qb := zB.1
      have zU := zB.2
      have zDw : Below w.heap.size w v := d4.trans (zU.below d4.size (fun k hk => hk.elim))
      have p2 : T[79]? = some (gw true (.slice (some (if c = lft n then ⟨kq6, ko7, none⟩ else ⟨kq6, ko7 + (lft n) * 5, none⟩)) (n - (lft n)) (c - (lft n)))) := zp 2 (by kernel_rfl) (by kernel_rfl)
      have p5 : T[82]? = some (gw true (.int .i64 ((p - (lft n) : Nat) : Int))) := zp 5 (by kernel_rfl) (by kernel_rfl)
      have p6 : T[83]? = some (gw true (x.val20)) := zp 6 (by kernel_rfl) (by kernel_rfl)
      have p9 : T[86]? = some (gw true (.slice (some ⟨kq8, ko9, none⟩) (k - 1) c3)) := zp 9 (by kernel_rfl) (by kernel_rfl)
      refine ⟨true, want_none rfl, fun hc => .inr (.inr ⟨_, _, _, ex_call rfl (by simp only [List.map_toArray, List.map_cons, List.map_nil, (ev p2 rfl), (ev p5 rfl), (ev p6 rfl), (ev p9 rfl), evc] <;> rfl) rfl, c1 _ _ _ _ v ((hL.later zDw).from20 (lft n) (by omega)) ((hP.later zDw).take (k - 1) (by omega)), ?_⟩), fun _ => rfl, fun h => absurd h (by decide)⟩
      rintro e w9 ⟨rfl, b9⟩
      exact ⟨_, rfl, Upd.of_below b9, fun h => absurd h (by decide), fun T2 N => N.s 87 rfl⟩
    · intro T df v zz zB zp zC
      have qb := zB.1
      have zU := zB.2
      have p10 : T[87]? = some (gw true (.tuple #[(cl (lf x) (p - lft n) (n - lft n) (P.take (k - 1))).val, .bool (F1)])) := zp 10 (by kernel_rfl) (by kernel_rfl)
      exact ⟨true, want_none rfl, fun _ => .inl ⟨_, _, ex_move rfl (ev p10 rfl), Upd.refl _ _, fun h => absurd h (by decide), fun T2 N => N.s 76 rfl⟩, fun h => absurd h (by decide), fun h => absurd h (by decide)⟩
    · intro T df v zz zB zp zC
      have qb := zB.1
      have zU := zB.2
      have p11 : T[76]? = some (gw true (.tuple #[(cl (lf x) (p - lft n) (n - lft n) (P.take (k - 1))).val, .bool (F1)])) := zp 11 (by kernel_rfl) (by kernel_rfl)
      exact ⟨true, want_none rfl, fun _ => .inl ⟨_, _, ex_ext18 rfl (ev p11 rfl) rfl, Upd.refl _ _, fun h => absurd h (by decide), fun T2 N => N.s 88 rfl⟩, fun h => absurd h (by decide), fun h => absurd h (by decide)⟩
    · intro T df v zz zB zp zC
      have qb := zB.1
      have zU := zB.2
      have p11 : T[76]? = some (gw true (.tuple #[(cl (lf x) (p - lft n) (n - lft n) (P.take (k - 1))).val, .bool (F1)])) := zp 11 (by kernel_rfl) (by kernel_rfl)
      exact ⟨true, want_none rfl, fun _ => .inl ⟨_, _, ex_ext18 rfl (ev p11 rfl) rfl, Upd.refl _ _, fun h => absurd h (by decide), fun T2 N => N.s 89 rfl⟩, fun h => absurd h (by decide), fun h => absurd h (by decide)⟩
    · intro T df v zz zB zp zC
      have qb := zB.1
      have zU := zB.2
      exact ⟨_, want_none rfl, fun _ => .inl ⟨_, _, ex_al rfl (alH _), Upd.of_below ((Below.refl _ _).alloc (Nat.le_refl _) _), fun _ => ⟨_, rfl, Nat.le_refl _, by rw [World.size_alloc]; exact Nat.lt_succ_self _⟩, fun T2 N => ⟨_, N.s 15 rfl, BB.new _ _ _, zU.size⟩⟩, fun h => absurd h (by decide), fun h => absurd h (by decide)⟩
    · intro T df v zz zB zp zC
      have qb := zB.1
      have zU := zB.2
      have p12 : T[88]? = some (gw true ((cl (lf x) (p - lft n) (n - lft n) (P.take (k - 1))).val)) := zp 12 (by kernel_rfl) (by kernel_rfl)
      have p14 : ∃ b : Nat, T[15]? = some (gw true (.pointer (some ⟨b, 0, none⟩))) ∧ BB v b 24 (zH.cs) ∧ w3.heap.size ≤ b := zp 14 (by kernel_rfl) (by kernel_rfl)
      obtain ⟨b, pb, Bb, lb⟩ := p14
      have e1 : ptr T 15 = b := by unfold ptr; rw [pb]; rfl
      exact ⟨_, want_none rfl, fun _ => .inr (.inl ⟨_, ex_st rfl (ev pb rfl) (ev p12 rfl) (Bb.stH rfl _), (upd18 _ _ _ _).sub20 (fun k hk => by have hk2 : k = b := hk; show (15 = 15 ∧ k = ptr T 15 ∧ w3.heap.size ≤ k); omega), fun h => absurd h (by decide), fun T2 N => ⟨b, (N.k 15 rfl).trans pb, Bb.putH rfl _, lb⟩⟩), fun h => absurd h (by decide), fun h => absurd h (by decide)⟩
    · intro T df v zz zB zp zC
      have qb := zB.1
      have zU := zB.2
      have p13 : T[89]? = some (gw true (.bool (F1))) := zp 13 (by kernel_rfl) (by kernel_rfl)
      exact ⟨true, want_none rfl, fun _ => .inl ⟨_, _, ex_assign rfl (ev p13 rfl), Upd.refl _ _, fun h => absurd h (by decide), fun T2 N => N.s 16 rfl⟩, fun h => absurd h (by decide), fun h => absurd h (by decide)⟩
  intro T v11 zz zB zq za
  have qb := zB.1
  have U12 := zB.2
  clear zB zz
  clear q17
  have d13 : Below w.heap.size w v11 := d4.trans (U12.below (Nat.le_trans d4.size (Nat.le_refl _)) (fun k hk => hk.elim))
  have zv11 := U12.size
  obtain ⟨b14, p15, Bb14, lb14⟩ : ∃ b : Nat, T[15]? = some (gw true (.pointer (some ⟨b, 0, none⟩))) ∧ BB v11 b 24 ((cl (lf x) (p - lft n) (n - lft n) (P.take (k - 1))).cs) ∧ w3.heap.size ≤ b := zq 15 _ rfl (fun k => rfl)
  have ltb14 := Bb14.lt
  have p16 : T[16]? = some (gw true (.bool (F1))) := zq 16 _ rfl (fun k => rfl)
  have q18 := ((qb.cons p15).cons p16)
  clear zq za qb p15 p16
  go_upto_region 10 with fail
  refine vp_start 108 (fun T v => Rp T 108 [(0, gw true (.slice (some ⟨kq6, ko7, none⟩) n c)), (3, gw true (.slice (some ⟨kq8, ko9, none⟩) k c3)), (8, gw true (.pointer (some ⟨w1.heap.size, 0, none⟩))), (9, gw true (.bool false)), (11, gw true (.int .i64 ((k - 1 : Nat) : Int))), (15, gw true (.pointer (some ⟨b14, 0, none⟩))), (16, gw true (.bool (F1))), (20, gw true (.bool false)), (45, gw true (.bool false))] ∧ Upd (fun k => False) v11 v) (fun (i : Nat) (T : Array Value) (v : World) => match i with | 0 => T[90]? = some (gw true (.slice (some ⟨kq8, ko9, none⟩) k c3)) | 1 => T[91]? = some (gw true (.int .i64 ((k - 1 : Nat) : Int))) | 2 => T[92]? = some (gw true (.pointer (some ⟨kq8, ko9 + (k - 1) * 32, none⟩))) | 3 => T[93]? = some (gw true (tp.val)) | 4 => T[94]? = some (gw true ((cl (lf x) (p - lft n) (n - lft n) (P.take (k - 1))).val)) | 5 => T[95]? = some (gw true (pval tp (cl (lf x) (p - lft n) (n - lft n) (P.take (k - 1))))) | 6 => ∃ b : Nat, T[17]? = some (gw true (.pointer (some ⟨b, 0, none⟩))) ∧ BB v b 95 (pz) ∧ v11.heap.size ≤ b | 7 => ∃ b : Nat, T[17]? = some (gw true (.pointer (some ⟨b, 0, none⟩))) ∧ BB v b 95 (pcs tp (cl (lf x) (p - lft n) (n - lft n) (P.take (k - 1)))) ∧ v11.heap.size ≤ b | _ => True) (fun (i : Nat) (T : Array Value) (v : World) => match i with | _ => True) (fun j T k => (j = 7 ∧ k = ptr T 17 ∧ v11.heap.size ≤ k)) (fun i => match i with | 0 => [90] | 1 => [91] | 2 => [92] | 3 => [93] | 4 => [94] | 5 => [95] | 6 => [17] | 7 => [17] | _ => []) (fun _ => []) [0, 3, 8, 9, 11, 15, 16, 20, 45] (fun i j => (Nat.beq i 6 && Nat.beq j 7)) (fun i => Nat.beq i 6) (by kernel_rfl) (by kernel_rfl) q18.z ⟨((((((((((Rp.nil q18.z).cons (q18.a 45 rfl)).cons (q18.a 20 rfl)).cons (q18.a 16 rfl)).cons (q18.a 15 rfl)).cons (q18.a 11 rfl)).cons (q18.a 9 rfl)).cons (q18.a 8 rfl)).cons (q18.a 3 rfl)).cons (q18.a 0 rfl)), (Upd.refl _ _).drew20⟩ ?_ ?_ ?_ ?_ ?_ ?_
  · exact ⟨trivial, trivial, trivial, trivial, trivial, trivial, trivial, trivial, trivial⟩
  · intro j T T2 v v2 h _ hz hk hu
    exact ⟨h.1.ch hz hk, h.2.tr20 hu (fun k hk he => by have he2 : (j = 7 ∧ k = ptr T 17 ∧ v11.heap.size ≤ k) := he; show False; omega)⟩
  · refine ⟨?_, ?_, ?_, ?_, ?_, ?_, ?_, ?_, trivial⟩
    · exact fun j hj hu T T2 v v2 h hD hz hk zU => (hk 90 (List.mem_singleton.2 rfl)).trans h
    · exact fun j hj hu T T2 v v2 h hD hz hk zU => (hk 91 (List.mem_singleton.2 rfl)).trans h
    · exact fun j hj hu T T2 v v2 h hD hz hk zU => (hk 92 (List.mem_singleton.2 rfl)).trans h
    · exact fun j hj hu T T2 v v2 h hD hz hk zU => (hk 93 (List.mem_singleton.2 rfl)).trans h
    · exact fun j hj hu T T2 v v2 h hD hz hk zU => (hk 94 (List.mem_singleton.2 rfl)).trans h
    · exact fun j hj hu T T2 v v2 h hD hz hk zU => (hk 95 (List.mem_singleton.2 rfl)).trans h
    · intro j hj hu T T2 v v2 h hD hz hk zU
      obtain ⟨b, pb, Bb, lb⟩ := h
      have e1 : ptr T 17 = b := by unfold ptr; rw [pb]; rfl
      have n7 : j ≠ 7 := fun e => by subst e; exact absurd hu (by decide)
      exact ⟨b, (hk 17 (List.mem_singleton.2 rfl)).trans pb, Bb.upd zU (fun he => by have he2 : (j = 7 ∧ b = ptr T 17 ∧ v11.heap.size ≤ b) := he; omega), lb⟩
    · intro j hj hu T T2 v v2 h hD hz hk zU
      obtain ⟨b, pb, Bb, lb⟩ := h
      have e1 : ptr T 17 = b := by unfold ptr; rw [pb]; rfl
      exact ⟨b, (hk 17 (List.mem_singleton.2 rfl)).trans pb, Bb.upd zU (fun he => by have he2 : (j = 7 ∧ b = ptr T 17 ∧ v11.heap.size ≤ b) := he; omega), lb⟩
  · refine ⟨fun _ _ _ _ _ _ _ _ _ _ _ => trivial, fun _ _ _ _ _ _ _ _ _ _ _ => trivial, fun _ _ _ _ _ _ _ _ _ _ _ => trivial, fun _ _ _ _ _ _ _ _ _ _ _ => trivial, fun _ _ _ _ _ _ _ _ _ _ _ => trivial, fun _ _ _ _ _ _ _ _ _ _ _ => trivial, fun _ _ _ _ _ _ _ _ _ _ _ => trivial, fun _ _ _ _ _ _ _ _ _ _ _ => trivial, trivial⟩
  · refine ⟨?_, ?_, ?_, ?_, ?_, ?_, ?_, ?_, trivial⟩
    · intro T df v zz zB zp zC
      have qb := zB.1
      have zU := zB.2
      exact ⟨true, want_none rfl, fun _ => .inl ⟨_, _, ex_move rfl (qb.e (j := 3) rfl), Upd.refl _ _, fun h => absurd h (by decide), fun T2 N => N.s 90 rfl⟩, fun h => absurd h (by decide), fun h => absurd h (by decide)⟩
    · intro T df v zz zB zp zC
      have qb := zB.1
      have zU := zB.2
      exact ⟨true, want_none rfl, fun _ => .inl ⟨_, _, ex_move rfl (qb.e (j := 11) rfl), Upd.refl _ _, fun h => absurd h (by decide), fun T2 N => N.s 91 rfl⟩, fun h => absurd h (by decide), fun h => absurd h (by decide)⟩
    · intro T df v zz zB zp zC
      have qb := zB.1
      have zU := zB.2
      have p0 : T[90]? = some (gw true (.slice (some ⟨kq8, ko9, none⟩) k c3)) := zp 0 (by kernel_rfl) (by kernel_rfl)
      have p1 : T[91]? = some (gw true (.int .i64 ((k - 1 : Nat) : Int))) := zp 1 (by kernel_rfl) (by kernel_rfl)
      exact ⟨true, want_none rfl, fun _ => .inl ⟨_, _, ex_ix rfl (ev p0 rfl) (ev p1 rfl) (ixH kq8 ko9 k c3 (k - 1) (by omega) _), Upd.refl _ _, fun h => absurd h (by decide), fun T2 N => N.s 92 rfl⟩, fun h => absurd h (by decide), fun h => absurd h (by decide)⟩
    · intro T df v zz zB zp zC
      have qb := zB.1
      have zU := zB.2
      have zDw : Below w.heap.size w v := d13.trans (zU.below d13.size (fun k hk => hk.elim))
      have p2 : T[92]? = some (gw true (.pointer (some ⟨kq8, ko9 + (k - 1) * 32, none⟩))) := zp 2 (by kernel_rfl) (by kernel_rfl)
      exact ⟨true, want_none rfl, fun _ => .inl ⟨_, _, ex_ld rfl (ev p2 rfl) (ldH20 (lkq8.upd (S := fun _ => False) (Upd.of_below zDw) hkq8 id) htp), Upd.refl _ _, fun h => absurd h (by decide), fun T2 N => N.s 93 rfl⟩, fun h => absurd h (by decide), fun h => absurd h (by decide)⟩
    · intro T df v zz zB zp zC
      have qb := zB.1
      have zU := zB.2
      exact ⟨true, want_none rfl, fun _ => .inl ⟨_, _, ex_ld rfl (qb.e (j := 15) rfl) (Bb14.upd zU (show ¬ False from id)).ldH, Upd.refl _ _, fun h => absurd h (by decide), fun T2 N => N.s 94 rfl⟩, fun h => absurd h (by decide), fun h => absurd h (by decide)⟩
    · intro T df v zz zB zp zC
      have qb := zB.1
      have zU := zB.2
      have p3 : T[93]? = some (gw true (tp.val)) := zp 3 (by kernel_rfl) (by kernel_rfl)
      have p4 : T[94]? = some (gw true ((cl (lf x) (p - lft n) (n - lft n) (P.take (k - 1))).val)) := zp 4 (by kernel_rfl) (by kernel_rfl)
      exact ⟨true, want_none rfl, fun _ => .inl ⟨_, _, ex_bdP rfl (ev p3 rfl) (ev p4 rfl) (bdP _ _ _), Upd.refl _ _, fun h => absurd h (by decide), fun T2 N => N.s 95 rfl⟩, fun h => absurd h (by decide), fun h => absurd h (by decide)⟩
    · intro T df v zz zB zp zC
      have qb := zB.1
      have zU := zB.2
      exact ⟨_, want_none rfl, fun _ => .inl ⟨_, _, ex_al rfl (alP _), Upd.of_below ((Below.refl _ _).alloc (Nat.le_refl _) _), fun _ => ⟨_, rfl, Nat.le_refl _, by rw [World.size_alloc]; exact Nat.lt_succ_self _⟩, fun T2 N => ⟨_, N.s 17 rfl, BB.new _ _ _, zU.size⟩⟩, fun h => absurd h (by decide), fun h => absurd h (by decide)⟩
    · intro T df v zz zB zp zC
      have qb := zB.1
      have zU := zB.2
      have p5 : T[95]? = some (gw true (pval tp (cl (lf x) (p - lft n) (n - lft n) (P.take (k - 1))))) := zp 5 (by kernel_rfl) (by kernel_rfl)
      have p6 : ∃ b : Nat, T[17]? = some (gw true (.pointer (some ⟨b, 0, none⟩))) ∧ BB v b 95 (pz) ∧ v11.heap.size ≤ b := zp 6 (by kernel_rfl) (by kernel_rfl)
      obtain ⟨b, pb, Bb, lb⟩ := p6
      have e1 : ptr T 17 = b := by unfold ptr; rw [pb]; rfl
      exact ⟨_, want_none rfl, fun _ => .inr (.inl ⟨_, ex_st rfl (ev pb rfl) (ev p5 rfl) (Bb.stP rfl _ _), (upd18 _ _ _ _).sub20 (fun k hk => by have hk2 : k = b := hk; show (7 = 7 ∧ k = ptr T 17 ∧ v11.heap.size ≤ k); omega), fun h => absurd h (by decide), fun T2 N => ⟨b, (N.k 17 rfl).trans pb, Bb.whole _ (by rw [pcs_len]; rfl), lb⟩⟩), fun h => absurd h (by decide), fun h => absurd h (by decide)⟩
  intro T v15 zz zB zq za
  have qb := zB.1
  have U16 := zB.2
  clear zB zz
  clear q18
  have d17 : Below w.heap.size w v15 := d13.trans (U16.below (Nat.le_trans d13.size (Nat.le_refl _)) (fun k hk => hk.elim))
  have zv15 := U16.size
  obtain ⟨b18, p7, Bb18, lb18⟩ : ∃ b : Nat, T[17]? = some (gw true (.pointer (some ⟨b, 0, none⟩))) ∧ BB v15 b 95 (pcs tp (cl (lf x) (p - lft n) (n - lft n) (P.take (k - 1)))) ∧ v11.heap.size ≤ b := zq 7 _ rfl (fun k => rfl)
  have ltb18 := Bb18.lt
  have q19 := (qb.cons p7)
  clear zq za qb p7
  go_upto_region 11 with fail
  have B19 : BB v15 w1.heap.size 24 (zH.cs) := ((Bw3.upd U12 (show ¬ False from id)).upd U16 (show ¬ False from id))
  refine vp_start 108 (fun T v => Rp T 108 [(0, gw true (.slice (some ⟨kq6, ko7, none⟩) n c)), (8, gw true (.pointer (some ⟨w1.heap.size, 0, none⟩))), (16, gw true (.bool (F1))), (17, gw true (.pointer (some ⟨b18, 0, none⟩))), (20, gw true (.bool false)), (45, gw true (.bool false))] ∧ Upd (fun k => k = w1.heap.size) v15 v) (fun (i : Nat) (T : Array Value) (v : World) => match i with | 0 => T[96]? = some (gw true (.pointer (some ⟨b18, 0, none⟩))) | 1 => T[97]? = some (gw true (tp.val)) | 2 => T[98]? = some (gw true (.pointer (some ⟨b18, 32, none⟩))) | 3 => T[99]? = some (gw true ((cl (lf x) (p - lft n) (n - lft n) (P.take (k - 1))).val)) | 4 => T[100]? = some (gw true ((nd tp (cl (lf x) (p - lft n) (n - lft n) (P.take (k - 1)))).val)) | 5 => T[101]? = some (gw true (.bool (F1))) | 6 => T[102]? = some (gw true (.bool (F1))) | 7 => T[103]? = some (gw (true && (F1 == false)) (pval tp (cl (lf x) (p - lft n) (n - lft n) (P.take (k - 1))))) | 8 => T[104]? = some (gw (true && (F1 == false)) (.slice (some ⟨kq6, ko7, none⟩) n c)) | 9 => T[105]? = some (gw (true && (F1 == false)) (pval (hd ((L.map lf).take (lft n))) (hd ((L.map lf).drop (lft n))))) | 10 => T[106]? = some (gw (true && (F1 == false)) (.bool ((!(decide (tp.v = (hd ((L.map lf).take (lft n))).v) && decide ((cl (lf x) (p - lft n) (n - lft n) (P.take (k - 1))).v = (hd ((L.map lf).drop (lft n))).v))) && decide ((nd tp (cl (lf x) (p - lft n) (n - lft n) (P.take (k - 1)))).v = (nd (hd ((L.map lf).take (lft n))) (hd ((L.map lf).drop (lft n)))).v)))) | 11 => T[107]? = some (gw true (.bool (F1 || ((!(decide (tp.v = (hd ((L.map lf).take (lft n))).v) && decide ((cl (lf x) (p - lft n) (n - lft n) (P.take (k - 1))).v = (hd ((L.map lf).drop (lft n))).v))) && decide ((nd tp (cl (lf x) (p - lft n) (n - lft n) (P.take (k - 1)))).v = (nd (hd ((L.map lf).take (lft n))) (hd ((L.map lf).drop (lft n)))).v))))) | 12 => BB v w1.heap.size 24 ((nd tp (cl (lf x) (p - lft n) (n - lft n) (P.take (k - 1)))).cs) | 13 => T[9]? = some (gw true (.bool (F1 || ((!(decide (tp.v = (hd ((L.map lf).take (lft n))).v) && decide ((cl (lf x) (p - lft n) (n - lft n) (P.take (k - 1))).v = (hd ((L.map lf).drop (lft n))).v))) && decide ((nd tp (cl (lf x) (p - lft n) (n - lft n) (P.take (k - 1)))).v = (nd (hd ((L.map lf).take (lft n))) (hd ((L.map lf).drop (lft n)))).v))))) | _ => True) (fun (i : Nat) (T : Array Value) (v : World) => match i with | 12 => BB v w1.heap.size 24 (zH.cs) | _ => True) (fun j T k => (j = 12 ∧ k = w1.heap.size)) (fun i => match i with | 0 => [96] | 1 => [97] | 2 => [98] | 3 => [99] | 4 => [100] | 5 => [101] | 6 => [102] | 7 => [103] | 8 => [104] | 9 => [105] | 10 => [106] | 11 => [107] | 12 => [] | 13 => [9] | _ => []) (fun _ => []) [0, 8, 16, 17, 20, 45] (fun i j => false) (fun i => false) (by kernel_rfl) (by kernel_rfl) q19.z ⟨(((((((Rp.nil q19.z).cons (q19.a 45 rfl)).cons (q19.a 20 rfl)).cons (q19.a 17 rfl)).cons (q19.a 16 rfl)).cons (q19.a 8 rfl)).cons (q19.a 0 rfl)), (Upd.refl _ _).drew20⟩ ?_ ?_ ?_ ?_ ?_ ?_
  · exact ⟨trivial, trivial, trivial, trivial, trivial, trivial, trivial, trivial, trivial, trivial, trivial, trivial, B19.later (Below.refl _ _).drew, trivial, trivial⟩
  · intro j T T2 v v2 h _ hz hk hu
    exact ⟨h.1.ch hz hk, h.2.tr20 hu (fun k hk he => by have he2 : (j = 12 ∧ k = w1.heap.size) := he; show k = w1.heap.size; omega)⟩
  · refine ⟨?_, ?_, ?_, ?_, ?_, ?_, ?_, ?_, ?_, ?_, ?_, ?_, ?_, ?_, trivial⟩
    · exact fun j hj hu T T2 v v2 h hD hz hk zU => (hk 96 (List.mem_singleton.2 rfl)).trans h
    · exact fun j hj hu T T2 v v2 h hD hz hk zU => (hk 97 (List.mem_singleton.2 rfl)).trans h
    · exact fun j hj hu T T2 v v2 h hD hz hk zU => (hk 98 (List.mem_singleton.2 rfl)).trans h
    · exact fun j hj hu T T2 v v2 h hD hz hk zU => (hk 99 (List.mem_singleton.2 rfl)).trans h
    · exact fun j hj hu T T2 v v2 h hD hz hk zU => (hk 100 (List.mem_singleton.2 rfl)).trans h
    · exact fun j hj hu T T2 v v2 h hD hz hk zU => (hk 101 (List.mem_singleton.2 rfl)).trans h
    · exact fun j hj hu T T2 v v2 h hD hz hk zU => (hk 102 (List.mem_singleton.2 rfl)).trans h
    · exact fun j hj hu T T2 v v2 h hD hz hk zU => (hk 103 (List.mem_singleton.2 rfl)).trans h
    · exact fun j hj hu T T2 v v2 h hD hz hk zU => (hk 104 (List.mem_singleton.2 rfl)).trans h
    · exact fun j hj hu T T2 v v2 h hD hz hk zU => (hk 105 (List.mem_singleton.2 rfl)).trans h
    · exact fun j hj hu T T2 v v2 h hD hz hk zU => (hk 106 (List.mem_singleton.2 rfl)).trans h
    · exact fun j hj hu T T2 v v2 h hD hz hk zU => (hk 107 (List.mem_singleton.2 rfl)).trans h
    · intro j hj hu T T2 v v2 h hD hz hk zU
      exact BB.upd h zU (fun he => by have he2 : (j = 12 ∧ w1.heap.size = w1.heap.size) := he; omega)
    · exact fun j hj hu T T2 v v2 h hD hz hk zU => (hk 9 (List.mem_singleton.2 rfl)).trans h
  · refine ⟨fun _ _ _ _ _ _ _ _ _ _ _ => trivial, fun _ _ _ _ _ _ _ _ _ _ _ => trivial, fun _ _ _ _ _ _ _ _ _ _ _ => trivial, fun _ _ _ _ _ _ _ _ _ _ _ => trivial, fun _ _ _ _ _ _ _ _ _ _ _ => trivial, fun _ _ _ _ _ _ _ _ _ _ _ => trivial, fun _ _ _ _ _ _ _ _ _ _ _ => trivial, fun _ _ _ _ _ _ _ _ _ _ _ => trivial, fun _ _ _ _ _ _ _ _ _ _ _ => trivial, fun _ _ _ _ _ _ _ _ _ _ _ => trivial, fun _ _ _ _ _ _ _ _ _ _ _ => trivial, fun _ _ _ _ _ _ _ _ _ _ _ => trivial, ?_, fun _ _ _ _ _ _ _ _ _ _ _ => trivial, trivial⟩
    · exact fun j hj T T2 v v2 h _ hz hk zU => BB.upd h zU (fun he => by have he2 : (j = 12 ∧ w1.heap.size = w1.heap.size) := he; omega)
  · refine ⟨?_, ?_, ?_, ?_, ?_, ?_, ?_, ?_, ?_, ?_, ?_, ?_, ?_, ?_, trivial⟩
    · intro T df v zz zB zp zC
      have qb := zB.1
      have zU := zB.2
      exact ⟨true, want_none rfl, fun _ => .inl ⟨_, _, ex_fa rfl (qb.e (j := 17) rfl) (faP _ _ _ (.inl ⟨rfl, rfl⟩) _), Upd.refl _ _, fun h => absurd h (by decide), fun T2 N => N.s 96 rfl⟩, fun h => absurd h (by decide), fun h => absurd h (by decide)⟩
    · intro T df v zz zB zp zC
      have qb := zB.1
      have zU := zB.2
      have p0 : T[96]? = some (gw true (.pointer (some ⟨b18, 0, none⟩))) := zp 0 (by kernel_rfl) (by kernel_rfl)
      exact ⟨true, want_none rfl, fun _ => .inl ⟨_, _, ex_ld rfl (ev p0 rfl) (Bb18.upd zU (show ¬ (b18 = w1.heap.size) by omega)).ldA, Upd.refl _ _, fun h => absurd h (by decide), fun T2 N => N.s 97 rfl⟩, fun h => absurd h (by decide), fun h => absurd h (by decide)⟩
    · intro T df v zz zB zp zC
      have qb := zB.1
      have zU := zB.2
      exact ⟨true, want_none rfl, fun _ => .inl ⟨_, _, ex_fa rfl (qb.e (j := 17) rfl) (faP _ _ _ (.inr ⟨rfl, rfl⟩) _), Upd.refl _ _, fun h => absurd h (by decide), fun T2 N => N.s 98 rfl⟩, fun h => absurd h (by decide), fun h => absurd h (by decide)⟩
    · intro T df v zz zB zp zC
      have qb := zB.1
      have zU := zB.2
      have p2 : T[98]? = some (gw true (.pointer (some ⟨b18, 32, none⟩))) := zp 2 (by kernel_rfl) (by kernel_rfl)
      exact ⟨true, want_none rfl, fun _ => .inl ⟨_, _, ex_ld rfl (ev p2 rfl) (Bb18.upd zU (show ¬ (b18 = w1.heap.size) by omega)).ldB, Upd.refl _ _, fun h => absurd h (by decide), fun T2 N => N.s 99 rfl⟩, fun h => absurd h (by decide), fun h => absurd h (by decide)⟩
    · intro T df v zz zB zp zC
      have qb := zB.1
      have zU := zB.2
      have p1 : T[97]? = some (gw true (tp.val)) := zp 1 (by kernel_rfl) (by kernel_rfl)
      have p3 : T[99]? = some (gw true ((cl (lf x) (p - lft n) (n - lft n) (P.take (k - 1))).val)) := zp 3 (by kernel_rfl) (by kernel_rfl)
      refine ⟨true, want_none rfl, fun hc => .inr (.inr ⟨_, _, _, ex_call rfl (by simp only [List.map_toArray, List.map_cons, List.map_nil, (ev p1 rfl), (ev p3 rfl), evc] <;> rfl) rfl, node20 tp (cl (lf x) (p - lft n) (n - lft n) (P.take (k - 1))) v, ?_⟩), fun _ => rfl, fun h => absurd h (by decide)⟩
      rintro e w9 ⟨rfl, b9⟩
      exact ⟨_, rfl, Upd.of_below b9, fun h => absurd h (by decide), fun T2 N => N.s 100 rfl⟩
    · intro T df v zz zB zp zC
      have qb := zB.1
      have zU := zB.2
      exact ⟨true, want_none rfl, fun _ => .inl ⟨_, _, ex_move rfl (qb.e (j := 16) rfl), Upd.refl _ _, fun h => absurd h (by decide), fun T2 N => N.s 101 rfl⟩, fun h => absurd h (by decide), fun h => absurd h (by decide)⟩
    · intro T df v zz zB zp zC
      have qb := zB.1
      have zU := zB.2
      have p5 : T[101]? = some (gw true (.bool (F1))) := zp 5 (by kernel_rfl) (by kernel_rfl)
      exact ⟨true, want_none rfl, fun _ => .inl ⟨_, _, ex_move rfl (ev p5 rfl), Upd.refl _ _, fun h => absurd h (by decide), fun T2 N => N.s 102 rfl⟩, fun h => absurd h (by decide), fun h => absurd h (by decide)⟩
    · intro T df v zz zB zp zC
      have qb := zB.1
      have zU := zB.2
      have p6 : T[102]? = some (gw true (.bool (F1))) := zp 6 (by kernel_rfl) (by kernel_rfl)
      exact ⟨(true && (F1 == false)), want_g rfl rfl p6, fun hc => .inl ⟨_, _, ex_ld rfl (qb.e (j := 17) rfl) (Bb18.upd zU (show ¬ (b18 = w1.heap.size) by omega)).ldP, Upd.refl _ _, fun h => absurd h (by decide), fun T2 N => by rw [hc]; exact N.s 103 rfl⟩, fun _ => rfl, fun hc T2 N => by rw [hc]; exact N.s 103 rfl⟩
    · intro T df v zz zB zp zC
      have qb := zB.1
      have zU := zB.2
      have p6 : T[102]? = some (gw true (.bool (F1))) := zp 6 (by kernel_rfl) (by kernel_rfl)
      exact ⟨(true && (F1 == false)), want_g rfl rfl p6, fun hc => .inl ⟨_, _, ex_move rfl (qb.e (j := 0) rfl), Upd.refl _ _, fun h => absurd h (by decide), fun T2 N => by rw [hc]; exact N.s 104 rfl⟩, fun _ => rfl, fun hc T2 N => by rw [hc]; exact N.s 104 rfl⟩
    · intro T df v zz zB zp zC
      have qb := zB.1
      have zU := zB.2
      have zDw : Below w.heap.size w v := d17.trans (zU.below d17.size (fun k hk => by have hk2 : k = w1.heap.size := hk; omega))
      have p6 : T[102]? = some (gw true (.bool (F1))) := zp 6 (by kernel_rfl) (by kernel_rfl)
      have p8 : T[104]? = some (gw (true && (F1 == false)) (.slice (some ⟨kq6, ko7, none⟩) n c)) := zp 8 (by kernel_rfl) (by kernel_rfl)
      refine ⟨(true && (F1 == false)), want_g rfl rfl p6, fun hc => .inr (.inr ⟨_, _, _, ex_call rfl (by simp only [List.map_toArray, List.map_cons, List.map_nil, (ev p8 hc), evc] <;> rfl) rfl, halves20 _ _ _ _ v (hL.later zDw) (by omega) (by omega) hv, ?_⟩), fun _ => rfl, fun hc T2 N => by rw [hc]; exact N.s 105 rfl⟩
      rintro e w9 ⟨rfl, b9⟩
      exact ⟨_, rfl, Upd.of_below b9, fun h => absurd h (by decide), fun T2 N => by rw [hc]; exact N.s 105 rfl⟩
    · intro T df v zz zB zp zC
      have qb := zB.1
      have zU := zB.2
      have p6 : T[102]? = some (gw true (.bool (F1))) := zp 6 (by kernel_rfl) (by kernel_rfl)
      have p7 : T[103]? = some (gw (true && (F1 == false)) (pval tp (cl (lf x) (p - lft n) (n - lft n) (P.take (k - 1))))) := zp 7 (by kernel_rfl) (by kernel_rfl)
      have p9 : T[105]? = some (gw (true && (F1 == false)) (pval (hd ((L.map lf).take (lft n))) (hd ((L.map lf).drop (lft n))))) := zp 9 (by kernel_rfl) (by kernel_rfl)
      refine ⟨(true && (F1 == false)), want_g rfl rfl p6, fun hc => .inr (.inr ⟨_, _, _, ex_call rfl (by simp only [List.map_toArray, List.map_cons, List.map_nil, (ev p7 hc), (ev p9 hc), evc] <;> rfl) rfl, one20 tp (cl (lf x) (p - lft n) (n - lft n) (P.take (k - 1))) (hd ((L.map lf).take (lft n))) (hd ((L.map lf).drop (lft n))) v, ?_⟩), fun _ => rfl, fun hc T2 N => by rw [hc]; exact N.s 106 rfl⟩
      rintro e w9 ⟨rfl, b9⟩
      exact ⟨_, rfl, Upd.of_below b9, fun h => absurd h (by decide), fun T2 N => by rw [hc]; exact N.s 106 rfl⟩
    · intro T df v zz zB zp zC
      have qb := zB.1
      have zU := zB.2
      have p6 : T[102]? = some (gw true (.bool (F1))) := zp 6 (by kernel_rfl) (by kernel_rfl)
      have p10 : T[106]? = some (gw (true && (F1 == false)) (.bool ((!(decide (tp.v = (hd ((L.map lf).take (lft n))).v) && decide ((cl (lf x) (p - lft n) (n - lft n) (P.take (k - 1))).v = (hd ((L.map lf).drop (lft n))).v))) && decide ((nd tp (cl (lf x) (p - lft n) (n - lft n) (P.take (k - 1)))).v = (nd (hd ((L.map lf).take (lft n))) (hd ((L.map lf).drop (lft n)))).v)))) := zp 10 (by kernel_rfl) (by kernel_rfl)
      exact ⟨true, want_none rfl, fun _ => .inl ⟨_, _, ex_or (c := true) (b := F1) (z := ((!(decide (tp.v = (hd ((L.map lf).take (lft n))).v) && decide ((cl (lf x) (p - lft n) (n - lft n) (P.take (k - 1))).v = (hd ((L.map lf).drop (lft n))).v))) && decide ((nd tp (cl (lf x) (p - lft n) (n - lft n) (P.take (k - 1)))).v = (nd (hd ((L.map lf).take (lft n))) (hd ((L.map lf).drop (lft n)))).v))) rfl p6 p10 rfl, Upd.refl _ _, fun h => absurd h (by decide), fun T2 N => N.s 107 rfl⟩, fun h => absurd h (by decide), fun h => absurd h (by decide)⟩
    · intro T df v zz zB zp zC
      have qb := zB.1
      have zU := zB.2
      have p4 : T[100]? = some (gw true ((nd tp (cl (lf x) (p - lft n) (n - lft n) (P.take (k - 1)))).val)) := zp 4 (by kernel_rfl) (by kernel_rfl)
      have hq : BB v w1.heap.size 24 (zH.cs) := zC 12 _ rfl (.inl rfl)
      exact ⟨_, want_none rfl, fun _ => .inr (.inl ⟨_, ex_st rfl (qb.e (j := 8) rfl) (ev p4 rfl) (hq.stH rfl _), (upd18 _ _ _ _).sub20 (fun k hk => by have hk2 : k = w1.heap.size := hk; show (12 = 12 ∧ k = w1.heap.size); omega), fun h => absurd h (by decide), fun T2 N => hq.putH rfl _⟩), fun h => absurd h (by decide), fun h => absurd h (by decide)⟩
    · intro T df v zz zB zp zC
      have qb := zB.1
      have zU := zB.2
      have p11 : T[107]? = some (gw true (.bool (F1 || ((!(decide (tp.v = (hd ((L.map lf).take (lft n))).v) && decide ((cl (lf x) (p - lft n) (n - lft n) (P.take (k - 1))).v = (hd ((L.map lf).drop (lft n))).v))) && decide ((nd tp (cl (lf x) (p - lft n) (n - lft n) (P.take (k - 1)))).v = (nd (hd ((L.map lf).take (lft n))) (hd ((L.map lf).drop (lft n)))).v))))) := zp 11 (by kernel_rfl) (by kernel_rfl)
      exact ⟨true, want_none rfl, fun _ => .inl ⟨_, _, ex_assign rfl (ev p11 rfl), Upd.refl _ _, fun h => absurd h (by decide), fun T2 N => N.s 9 rfl⟩, fun h => absurd h (by decide), fun h => absurd h (by decide)⟩
  intro T v20 zz zB zq za
  have qb := zB.1
  have U21 := zB.2
  clear zB zz
  clear q19
  have d22 : Below w.heap.size w v20 := d17.trans (U21.below (Nat.le_trans d17.size (Nat.le_refl _)) (fun k hk => by have hk2 : k = w1.heap.size := hk; omega))
  have zv20 := U21.size
  have B23 : BB v20 w1.heap.size 24 ((nd tp (cl (lf x) (p - lft n) (n - lft n) (P.take (k - 1)))).cs) := zq 12 _ rfl (fun k => rfl)
  have p13 : T[9]? = some (gw true (.bool (F1 || ((!(decide (tp.v = (hd ((L.map lf).take (lft n))).v) && decide ((cl (lf x) (p - lft n) (n - lft n) (P.take (k - 1))).v = (hd ((L.map lf).drop (lft n))).v))) && decide ((nd tp (cl (lf x) (p - lft n) (n - lft n) (P.take (k - 1)))).v = (nd (hd ((L.map lf).take (lft n))) (hd ((L.map lf).drop (lft n)))).v))))) := zq 13 _ rfl (fun k => rfl)
  have q20 := (qb.cons p13)
  clear zq za qb p13
  go_wp2
  exact bodyPost_ret (resHT20 rfl (q20.a 8 rfl) (q20.a 9 rfl) B23) rfl ⟨rfl, d22⟩
end Go.Proofs.Ytfafhlahbhopaaa
