import Derived.Test.YtfafhlahbhopaaaD8
set_option maxRecDepth 100000
set_option linter.unusedVariables false
set_option linter.unusedSimpArgs false
namespace Go.Proofs.Ytfafhlahbhopaaa
open Go.RowKit Go.Maps
open Classical
set_option maxHeartbeats 2000000 in
theorem rhead_step (m : Nat) (ih : ∀ (l : List En) (a : Option Addr) (n c : Nat) (w : World), SlY yE w a n c l → n < m → n ≤ 4398046511104 → (∀ x ∈ l, x.o.v.size ≤ 140737488351232) → Calls Try.prog 12 #[.slice a n c] w fun e w' => e = .returned (hd (l.map lf)).val ∧ Below w.heap.size w w') (l : List En) (a : Option Addr) (n c : Nat) (w : World) (h : SlY yE w a n c l) (hm : n ≤ m) (hn : n ≤ 4398046511104) (hv : ∀ x ∈ l, x.o.v.size ≤ 140737488351232) :
    Calls Try.prog 12 #[.slice a n c] w fun e w' => e = .returned (hd (l.map lf)).val ∧ Below w.heap.size w w' := by
  have hln := h.len
  go_enter Try.func12, Try.ntmps12
  go_upto_region 0 with fail
  refine wp_region_lit ?_
  refine vl_gen (fun T => Rp T 27 [(0, gw true (.slice a n c))]) ((Rp.nil rfl).cons rfl) (fun Z0 q0 => ?_)
  obtain ⟨w1, hw1⟩ : ∃ y, y = w.alloc (.cells (zH.cs).toArray 24) := ⟨_, rfl⟩
  refine vw (.pointer (some ⟨w.heap.size, 0, none⟩)) w1 (want_none rfl) (ex_al rfl (by rw [hw1]; exact alH _)) rfl q0.z (by decide) (q0.k fun _ q1 => ?_);clear q0
  have Bw1 : BB w1 w.heap.size 24 (zH.cs) := by rw [hw1]; exact BB.new _ _ _
  have bw1 : Below w.heap.size w w1 := by rw [hw1]; exact (Below.refl _ _).alloc (Nat.le_refl _) _
  have zw1 : w1.heap.size = w.heap.size + 1 := by rw [hw1]; exact World.size_alloc _ _
  clear hw1
  have d2 : Below w.heap.size w w1 := bw1
  refine wpList_nil ?_
  go_upto_region 1 with fail
  refine wp_region_lit ?_
  refine q1.t (.slice a n c) (ex_move rfl (q1.e (j := 0) rfl)) fun _ q2 => ?_;clear q1
  refine q2.t (.int .i64 ((n : Nat) : Int)) (ex_lenG rfl rfl Try.underlying22 (q2.e (j := 4) rfl)) fun _ q3 => ?_;clear q2
  by_cases h0 : n = 0
  · refine q3.t (.bool true) (ex_bin (Y := .int .i64 ((0 : Nat) : Int)) rfl (q3.e (j := 5) rfl) rfl (eqT20 _ _ (by omega) _)) fun _ q4 => ?_;clear q3
    refine wpList_nil ?_
    go_upto_region 2 with fail
    refine wp_cond_true (q4.e (j := 6) rfl) ?_
    go_upto_region 2 with fail
    refine wp_region_lit ?_
    refine vcallP (want_none rfl) (ex_call rfl (by simp only [List.map_toArray, List.map_cons, List.map_nil, evc] <;> rfl) rfl) (rsum020 w1) rfl q4.z (by decide) ?_
    rintro e w3 ⟨rfl, bw3⟩
    refine ⟨_, rfl, q4.k fun _ q5 => ?_⟩;clear q4
    have zw3 := bw3.size
    have d4 : Below w.heap.size w w3 := d2.trans (bw3.mono d2.size)
    have B5 : BB w3 w.heap.size 24 (zH.cs) := (Bw1.later bw3)
    obtain ⟨w6, hw6⟩ : ∃ y, y = w3.setCells w.heap.size 0 ((sH []).cs) := ⟨_, rfl⟩
    refine vs w6 (want_none rfl) (ex_st rfl (q5.e (j := 2) rfl) (q5.e (j := 7) rfl) (by rw [hw6]; exact B5.stH rfl _)) rfl ?_
    have Bw6 : BB w6 w.heap.size 24 ((sH []).cs) := by rw [hw6]; exact B5.putH rfl _
    have uw6 : Upd (fun k => k = w.heap.size) w3 w6 := by rw [hw6]; exact upd18 _ _ _ _
    clear hw6
    have zw6 := uw6.size
    have d7 : Below w.heap.size w w6 := d4.trans (bel_ge uw6 d4.size (by omega))
    refine wpList_nil ?_
    go_wp2
    exact Bw6.res rfl (q5.a 2 rfl) Try.underlying24 rfl (by rw [Hs.len]; exact i32h) ⟨by rw [List.eq_nil_of_length_eq_zero (hln.trans h0)]; rfl, d7⟩
  · refine q3.t (.bool false) (ex_bin (Y := .int .i64 ((0 : Nat) : Int)) rfl (q3.e (j := 5) rfl) rfl (eqF20 _ _ (by omega) _)) fun _ q4 => ?_;clear q3
    refine wpList_nil ?_
    go_upto_region 3 with fail
    refine wp_cond_false (q4.e (j := 6) rfl) ?_
    go_upto_region 3 with fail
    refine wp_region_lit ?_
    refine q4.t (.slice a n c) (ex_move rfl (q4.e (j := 0) rfl)) fun _ q5 => ?_;clear q4
    refine q5.t (.int .i64 ((n : Nat) : Int)) (ex_lenG rfl rfl Try.underlying22 (q5.e (j := 8) rfl)) fun _ q6 => ?_;clear q5
    by_cases h1 : n = 1
    · refine q6.t (.bool true) (ex_bin (Y := .int .i64 ((1 : Nat) : Int)) rfl (q6.e (j := 9) rfl) rfl (eqT20 _ _ (by omega) _)) fun _ q7 => ?_;clear q6
      refine wpList_nil ?_
      go_upto_region 4 with fail
      refine wp_cond_true (q7.e (j := 10) rfl) ?_
      obtain ⟨x0, rfl⟩ : ∃ x, l = [x] := List.length_eq_one_iff.1 (by omega)
      have hx0 : ([x0] : List En)[0]? = some x0 := rfl
      obtain ⟨kq3, ko4, rfl, hkq3, lkq3⟩ := h.place (by simp)
      have ckq3 := h.cap
      go_upto_region 4 with fail
      refine wp_region_lit ?_
      refine q7.t (.slice (some ⟨kq3, ko4, none⟩) n c) (ex_move rfl (q7.e (j := 0) rfl)) fun _ q8 => ?_;clear q7
      refine q8.t (.pointer (some ⟨kq3, ko4 + 0 * 5, none⟩)) (ex_ix (Y := .int .i64 ((0 : Nat) : Int)) rfl (q8.e (j := 11) rfl) rfl (ixE20 kq3 ko4 n c 0 (by omega) _)) fun _ q9 => ?_;clear q8
      refine q9.t (x0.val20) (ex_ld rfl (q9.e (j := 12) rfl) (ldEl20 (lkq3.upd (S := fun _ => False) (Upd.of_below d2) hkq3 id) hx0)) fun _ q10 => ?_;clear q9
      refine vcallP (want_none rfl) (ex_call rfl (by simp only [List.map_toArray, List.map_cons, List.map_nil, (q10.e (j := 13) rfl), evc] <;> rfl) rfl) (rleaf20 x0 w1 (hv _ (by simp))) rfl q10.z (by decide) ?_
      rintro e w5 ⟨rfl, bw5⟩
      refine ⟨_, rfl, q10.k fun _ q11 => ?_⟩;clear q10
      have zw5 := bw5.size
      have d6 : Below w.heap.size w w5 := d2.trans (bw5.mono d2.size)
      have B7 : BB w5 w.heap.size 24 (zH.cs) := (Bw1.later bw5)
      obtain ⟨w8, hw8⟩ : ∃ y, y = w5.setCells w.heap.size 0 ((lf x0).cs) := ⟨_, rfl⟩
      refine vs w8 (want_none rfl) (ex_st rfl (q11.e (j := 2) rfl) (q11.e (j := 14) rfl) (by rw [hw8]; exact B7.stH rfl _)) rfl ?_
      have Bw8 : BB w8 w.heap.size 24 ((lf x0).cs) := by rw [hw8]; exact B7.putH rfl _
      have uw8 : Upd (fun k => k = w.heap.size) w5 w8 := by rw [hw8]; exact upd18 _ _ _ _
      clear hw8
      have zw8 := uw8.size
      have d9 : Below w.heap.size w w8 := d6.trans (bel_ge uw8 d6.size (by omega))
      refine wpList_nil ?_
      go_wp2
      exact Bw8.res rfl (q11.a 2 rfl) Try.underlying24 rfl (by rw [Hs.len]; exact i32h) ⟨rfl, d9⟩
    · refine q6.t (.bool false) (ex_bin (Y := .int .i64 ((1 : Nat) : Int)) rfl (q6.e (j := 9) rfl) rfl (eqF20 _ _ (by omega) _)) fun _ q7 => ?_;clear q6
      refine wpList_nil ?_
      go_upto_region 5 with fail
      refine wp_cond_false (q7.e (j := 10) rfl) ?_
      go_upto_region 5 with fail
      refine wp_region_lit ?_
      refine q7.t (.slice a n c) (ex_move rfl (q7.e (j := 0) rfl)) fun _ q8 => ?_;clear q7
      refine q8.t (.int .i64 ((n : Nat) : Int)) (ex_lenG rfl rfl Try.underlying22 (q8.e (j := 15) rfl)) fun _ q9 => ?_;clear q8
      refine vcallP (want_none rfl) (ex_call rfl (by simp only [List.map_toArray, List.map_cons, List.map_nil, (q9.e (j := 16) rfl), evc] <;> rfl) rfl) (rsplit20 n (by omega) (by omega) w1) rfl q9.z (by decide) ?_
      rintro e w3 ⟨rfl, hw3⟩
      refine ⟨_, rfl, q9.k fun _ q10 => ?_⟩;clear q9
      have hw3 := hw3.symm
      subst hw3
      refine q10.t (.int .i64 ((lft n : Nat) : Int)) (ex_assign rfl (q10.e (j := 17) rfl)) fun _ q11 => ?_;clear q10
      refine wpList_nil ?_
      have hb := lft_b (n := n) (by omega)
      obtain ⟨kq4, ko5, rfl, hkq4, lkq4⟩ := h.place (by rintro rfl; simp at hln; omega)
      have ckq4 := h.cap
      go_upto_region 6 with fail
      refine vp_start 27 (fun T v => Rp T 27 [(0, gw true (.slice (some ⟨kq4, ko5, none⟩) n c)), (2, gw true (.pointer (some ⟨w.heap.size, 0, none⟩))), (3, gw true (.int .i64 ((lft n : Nat) : Int))), (6, gw true (.bool false)), (10, gw true (.bool false))] ∧ Upd (fun k => k = w.heap.size) w1 v) (fun (i : Nat) (T : Array Value) (v : World) => match i with | 0 => T[18]? = some (gw true (.slice (some ⟨kq4, ko5, none⟩) n c)) | 1 => T[19]? = some (gw true (.int .i64 ((lft n : Nat) : Int))) | 2 => T[20]? = some (gw true (.slice (some ⟨kq4, ko5, none⟩) (lft n) c)) | 3 => T[21]? = some (gw true ((hd ((l.take (lft n)).map lf)).val)) | 4 => T[22]? = some (gw true (.slice (some ⟨kq4, ko5, none⟩) n c)) | 5 => T[23]? = some (gw true (.int .i64 ((lft n : Nat) : Int))) | 6 => T[24]? = some (gw true (.slice (some (if c = lft n then ⟨kq4, ko5, none⟩ else ⟨kq4, ko5 + (lft n) * 5, none⟩)) (n - (lft n)) (c - (lft n)))) | 7 => T[25]? = some (gw true ((hd ((l.drop (lft n)).map lf)).val)) | 8 => T[26]? = some (gw true ((nd (hd ((l.take (lft n)).map lf)) (hd ((l.drop (lft n)).map lf))).val)) | 9 => BB v w.heap.size 24 ((nd (hd ((l.take (lft n)).map lf)) (hd ((l.drop (lft n)).map lf))).cs) | _ => True) (fun (i : Nat) (T : Array Value) (v : World) => match i with | 9 => BB v w.heap.size 24 (zH.cs) | _ => True) (fun j T k => (j = 9 ∧ k = w.heap.size)) (fun i => match i with | 0 => [18] | 1 => [19] | 2 => [20] | 3 => [21] | 4 => [22] | 5 => [23] | 6 => [24] | 7 => [25] | 8 => [26] | 9 => [] | _ => []) (fun _ => []) [0, 2, 3, 6, 10] (fun i j => false) (fun i => false) (by kernel_rfl) (by kernel_rfl) q11.z ⟨((((((Rp.nil q11.z).cons (q11.a 10 rfl)).cons (q11.a 6 rfl)).cons (q11.a 3 rfl)).cons (q11.a 2 rfl)).cons (q11.a 0 rfl)), (Upd.refl _ _).drew20⟩ ?_ ?_ ?_ ?_ ?_ ?_
      · exact ⟨trivial, trivial, trivial, trivial, trivial, trivial, trivial, trivial, trivial, Bw1.later (Below.refl _ _).drew, trivial⟩
      · intro j T T2 v v2 h _ hz hk hu
        exact ⟨h.1.ch hz hk, h.2.tr20 hu (fun k hk he => by have he2 : (j = 9 ∧ k = w.heap.size) := he; show k = w.heap.size; omega)⟩
      · refine ⟨?_, ?_, ?_, ?_, ?_, ?_, ?_, ?_, ?_, ?_, trivial⟩
        · exact fun j hj hu T T2 v v2 h hD hz hk zU => (hk 18 (List.mem_singleton.2 rfl)).trans h
        · exact fun j hj hu T T2 v v2 h hD hz hk zU => (hk 19 (List.mem_singleton.2 rfl)).trans h
        · exact fun j hj hu T T2 v v2 h hD hz hk zU => (hk 20 (List.mem_singleton.2 rfl)).trans h
        · exact fun j hj hu T T2 v v2 h hD hz hk zU => (hk 21 (List.mem_singleton.2 rfl)).trans h
        · exact fun j hj hu T T2 v v2 h hD hz hk zU => (hk 22 (List.mem_singleton.2 rfl)).trans h
        · exact fun j hj hu T T2 v v2 h hD hz hk zU => (hk 23 (List.mem_singleton.2 rfl)).trans h
        · exact fun j hj hu T T2 v v2 h hD hz hk zU => (hk 24 (List.mem_singleton.2 rfl)).trans h
        · exact fun j hj hu T T2 v v2 h hD hz hk zU => (hk 25 (List.mem_singleton.2 rfl)).trans h
        · exact fun j hj hu T T2 v v2 h hD hz hk zU => (hk 26 (List.mem_singleton.2 rfl)).trans h
        · intro j hj hu T T2 v v2 h hD hz hk zU
          exact BB.upd h zU (fun he => by have he2 : (j = 9 ∧ w.heap.size = w.heap.size) := he; omega)
      · refine ⟨fun _ _ _ _ _ _ _ _ _ _ _ => trivial, fun _ _ _ _ _ _ _ _ _ _ _ => trivial, fun _ _ _ _ _ _ _ _ _ _ _ => trivial, fun _ _ _ _ _ _ _ _ _ _ _ => trivial, fun _ _ _ _ _ _ _ _ _ _ _ => trivial, fun _ _ _ _ _ _ _ _ _ _ _ => trivial, fun _ _ _ _ _ _ _ _ _ _ _ => trivial, fun _ _ _ _ _ _ _ _ _ _ _ => trivial, fun _ _ _ _ _ _ _ _ _ _ _ => trivial, ?_, trivial⟩
        · exact fun j hj T T2 v v2 h _ hz hk zU => BB.upd h zU (fun he => by have he2 : (j = 9 ∧ w.heap.size = w.heap.size) := he; omega)
      · refine ⟨?_, ?_, ?_, ?_, ?_, ?_, ?_, ?_, ?_, ?_, trivial⟩
        · intro T df v zz zB zp zC
          have qb := zB.1
          have zU := zB.2
          exact ⟨true, want_none rfl, fun _ => .inl ⟨_, _, ex_move rfl (qb.e (j := 0) rfl), Upd.refl _ _, fun h => absurd h (by decide), fun T2 N => N.s 18 rfl⟩, fun h => absurd h (by decide), fun h => absurd h (by decide)⟩
        · intro T df v zz zB zp zC
          have qb := zB.1
          have zU := zB.2
          exact ⟨true, want_none rfl, fun _ => .inl ⟨_, _, ex_move rfl (qb.e (j := 3) rfl), Upd.refl _ _, fun h => absurd h (by decide), fun T2 N => N.s 19 rfl⟩, fun h => absurd h (by decide), fun h => absurd h (by decide)⟩
        · intro T df v zz zB zp zC
          have qb := zB.1
          have zU := zB.2
          have p0 : T[18]? = some (gw true (.slice (some ⟨kq4, ko5, none⟩) n c)) := zp 0 (by kernel_rfl) (by kernel_rfl)
          have p1 : T[19]? = some (gw true (.int .i64 ((lft n : Nat) : Int))) := zp 1 (by kernel_rfl) (by kernel_rfl)
          exact ⟨true, want_none rfl, fun _ => .inl ⟨_, _, ex_sl19 rfl (ev p0 rfl) rfl (congrArg some (ev p1 rfl)) rfl (slToE20 kq4 ko5 n c (lft n) (by omega) (ckq4) _), Upd.refl _ _, fun h => absurd h (by decide), fun T2 N => N.s 20 rfl⟩, fun h => absurd h (by decide), fun h => absurd h (by decide)⟩
        · intro T df v zz zB zp zC
          have qb := zB.1
          have zU := zB.2
          have zDw : Below w.heap.size w v := d2.trans (zU.below d2.size (fun k hk => by have hk2 : k = w.heap.size := hk; omega))
          have p2 : T[20]? = some (gw true (.slice (some ⟨kq4, ko5, none⟩) (lft n) c)) := zp 2 (by kernel_rfl) (by kernel_rfl)
          refine ⟨true, want_none rfl, fun hc => .inr (.inr ⟨_, _, _, ex_call rfl (by simp only [List.map_toArray, List.map_cons, List.map_nil, (ev p2 rfl), evc] <;> rfl) rfl, ih (l.take (lft n)) _ _ _ v ((h.later zDw).take (lft n) (by omega)) (by omega) (by omega) (fun x hx => hv x (List.mem_of_mem_take hx)), ?_⟩), fun _ => rfl, fun h => absurd h (by decide)⟩
          rintro e w9 ⟨rfl, b9⟩
          exact ⟨_, rfl, Upd.of_below b9, fun h => absurd h (by decide), fun T2 N => N.s 21 rfl⟩
        · intro T df v zz zB zp zC
          have qb := zB.1
          have zU := zB.2
          exact ⟨true, want_none rfl, fun _ => .inl ⟨_, _, ex_move rfl (qb.e (j := 0) rfl), Upd.refl _ _, fun h => absurd h (by decide), fun T2 N => N.s 22 rfl⟩, fun h => absurd h (by decide), fun h => absurd h (by decide)⟩
        · intro T df v zz zB zp zC
          have qb := zB.1
          have zU := zB.2
          exact ⟨true, want_none rfl, fun _ => .inl ⟨_, _, ex_move rfl (qb.e (j := 3) rfl), Upd.refl _ _, fun h => absurd h (by decide), fun T2 N => N.s 23 rfl⟩, fun h => absurd h (by decide), fun h => absurd h (by decide)⟩
        · intro T df v zz zB zp zC
          have qb := zB.1
          have zU := zB.2
          have p4 : T[22]? = some (gw true (.slice (some ⟨kq4, ko5, none⟩) n c)) := zp 4 (by kernel_rfl) (by kernel_rfl)
          have p5 : T[23]? = some (gw true (.int .i64 ((lft n : Nat) : Int))) := zp 5 (by kernel_rfl) (by kernel_rfl)
          exact ⟨true, want_none rfl, fun _ => .inl ⟨_, _, ex_sl19 rfl (ev p4 rfl) (congrArg some (ev p5 rfl)) rfl rfl (slFromE20 kq4 ko5 n c (lft n) (by omega) (ckq4) _), Upd.refl _ _, fun h => absurd h (by decide), fun T2 N => N.s 24 rfl⟩, fun h => absurd h (by decide), fun h => absurd h (by decide)⟩
        · intro T df v zz zB zp zC
          have qb := zB.1
          have zU := zB.2
          have zDw : Below w.heap.size w v := d2.trans (zU.below d2.size (fun k hk => by have hk2 : k = w.heap.size := hk; omega))
          have p6 : T[24]? = some (gw true (.slice (some (if c = lft n then ⟨kq4, ko5, none⟩ else ⟨kq4, ko5 + (lft n) * 5, none⟩)) (n - (lft n)) (c - (lft n)))) := zp 6 (by kernel_rfl) (by kernel_rfl)
          refine ⟨true, want_none rfl, fun hc => .inr (.inr ⟨_, _, _, ex_call rfl (by simp only [List.map_toArray, List.map_cons, List.map_nil, (ev p6 rfl), evc] <;> rfl) rfl, ih (l.drop (lft n)) _ _ _ v ((h.later zDw).from20 (lft n) (by omega)) (by omega) (by omega) (fun x hx => hv x (List.mem_of_mem_drop hx)), ?_⟩), fun _ => rfl, fun h => absurd h (by decide)⟩
          rintro e w9 ⟨rfl, b9⟩
          exact ⟨_, rfl, Upd.of_below b9, fun h => absurd h (by decide), fun T2 N => N.s 25 rfl⟩
        · intro T df v zz zB zp zC
          have qb := zB.1
          have zU := zB.2
          have p3 : T[21]? = some (gw true ((hd ((l.take (lft n)).map lf)).val)) := zp 3 (by kernel_rfl) (by kernel_rfl)
          have p7 : T[25]? = some (gw true ((hd ((l.drop (lft n)).map lf)).val)) := zp 7 (by kernel_rfl) (by kernel_rfl)
          refine ⟨true, want_none rfl, fun hc => .inr (.inr ⟨_, _, _, ex_call rfl (by simp only [List.map_toArray, List.map_cons, List.map_nil, (ev p3 rfl), (ev p7 rfl), evc] <;> rfl) rfl, rnode20 (hd ((l.take (lft n)).map lf)) (hd ((l.drop (lft n)).map lf)) v, ?_⟩), fun _ => rfl, fun h => absurd h (by decide)⟩
          rintro e w9 ⟨rfl, b9⟩
          exact ⟨_, rfl, Upd.of_below b9, fun h => absurd h (by decide), fun T2 N => N.s 26 rfl⟩
        · intro T df v zz zB zp zC
          have qb := zB.1
          have zU := zB.2
          have p8 : T[26]? = some (gw true ((nd (hd ((l.take (lft n)).map lf)) (hd ((l.drop (lft n)).map lf))).val)) := zp 8 (by kernel_rfl) (by kernel_rfl)
          have hq : BB v w.heap.size 24 (zH.cs) := zC 9 _ rfl (.inl rfl)
          exact ⟨_, want_none rfl, fun _ => .inr (.inl ⟨_, ex_st rfl (qb.e (j := 2) rfl) (ev p8 rfl) (hq.stH rfl _), (upd18 _ _ _ _).sub20 (fun k hk => by have hk2 : k = w.heap.size := hk; show (9 = 9 ∧ k = w.heap.size); omega), fun h => absurd h (by decide), fun T2 N => hq.putH rfl _⟩), fun h => absurd h (by decide), fun h => absurd h (by decide)⟩
      intro T v6 zz zB zq za
      have qb := zB.1
      have U7 := zB.2
      clear zB zz
      clear q11
      have d8 : Below w.heap.size w v6 := d2.trans (U7.below (Nat.le_trans d2.size (Nat.le_refl _)) (fun k hk => by have hk2 : k = w.heap.size := hk; omega))
      have zv6 := U7.size
      have B9 : BB v6 w.heap.size 24 ((nd (hd ((l.take (lft n)).map lf)) (hd ((l.drop (lft n)).map lf))).cs) := zq 9 _ rfl (fun k => rfl)
      have q12 := qb
      clear zq za qb
      go_wp2
      have e9 := hd_2 (l.map lf) (by rw [List.length_map]; omega)
      rw [List.length_map, hln] at e9
      exact B9.res rfl (q12.a 2 rfl) Try.underlying24 rfl (by rw [Hs.len]; exact i32h) ⟨by rw [e9, List.map_take, List.map_drop]; rfl, d8⟩
theorem rhead20 (l : List En) (a : Option Addr) (n c : Nat) (w : World) (h : SlY yE w a n c l) (hn : n ≤ 4398046511104) (hv : ∀ x ∈ l, x.o.v.size ≤ 140737488351232) :
    Calls Try.prog 12 #[.slice a n c] w fun e w' => e = .returned (hd (l.map lf)).val ∧ Below w.heap.size w w' := by
  have H : ∀ m, ∀ (l : List En) (a : Option Addr) (n c : Nat) (w : World), SlY yE w a n c l → n < m → n ≤ 4398046511104 → (∀ x ∈ l, x.o.v.size ≤ 140737488351232) → Calls Try.prog 12 #[.slice a n c] w fun e w' => e = .returned (hd (l.map lf)).val ∧ Below w.heap.size w w' := by
    intro m
    induction m with
    | zero => intro l a n c w _ h; omega
    | succ m ih => exact fun l a n c w h hm hn hv => rhead_step m ih l a n c w h (by omega) hn hv
  exact H (n + 1) l a n c w h (by omega) hn hv
def GE20 (w : World) (b : Nat) : Prop := ∃ B v4 v5 La Lb, GM w b B (.slice none 0 0) (.slice none 0 0) v4 v5 [] [] La Lb ∧ La.map (·.D) = Lb.map (·.D)
theorem GE20.bel {w w' : World} {b : Nat} (h : GE20 w b) (hb : Below w.heap.size w w') : GE20 w' b := by
  obtain ⟨B, v4, v5, La, Lb, G, e⟩ := h
  exact ⟨B, v4, v5, La, Lb, G.bel hb, e⟩
theorem gm_BB {w : World} {b : Nat} {T : TypeId} (h : BB w b T (List.replicate 10 (.slice none 0 0 : Value))) : GM w b (b + 1) (.slice none 0 0) (.slice none 0 0) (.slice none 0 0) (.slice none 0 0) [] [] [] [] := by
  have hc : ∀ i, i < 10 → w.cell? ⟨b, i, none⟩ = some (.slice none 0 0) := fun i hi => by
    rw [h.cell, List.getElem?_replicate, if_pos hi]
  exact ⟨Nat.lt_succ_self _, h.lt, hc 2 (by omega), hc 3 (by omega), hc 4 (by omega), hc 5 (by omega), fun i => h.free i, fun i h0 _ => hc i h0, OwnY.nil _ _ _, OwnY.nil _ _ _, OwnY.nil _ _ _, OwnY.nil _ _ _, (fun k h => by cases h), (fun k h => by cases h), (fun p hp => by cases hp), (fun p hp => by cases hp), (fun p hp => by cases hp), (fun p hp => by cases hp)⟩
theorem entries20 (b : Nat) {T : TypeId} (a : Option Addr) (n c : Nat) (D : List En) (w : World) (G : BB w b T (List.replicate 10 (.slice none 0 0 : Value))) (h : SlY yE w a n c D) (hm : n * 48 ≤ 140737488351232) :
    Calls Try.prog 11 #[.pointer (some ⟨b, 0, none⟩), .slice a n c] w fun e w' => ∃ g c', e = .returned (.slice (some ⟨g, 0, none⟩) n c') ∧ SlY yE w' (some ⟨g, 0, none⟩) n c' D ∧ GE20 w' b ∧ Upd (fun k => k = b) w w' := by
  refine (given_entM b (b + 1) _ _ _ _ [] [] [] [] a n c D w (gm_BB G) h hm (by decide) rfl).mono ?_
  rintro e w' ⟨g, c', va', vb', g5, k5, rfl, hs, _, G', u, _, _⟩
  refine ⟨g, c', rfl, hs, ⟨_, _, _, _, _, G', rfl⟩, u.mono (fun k _ hk => ?_)⟩
  rcases hk with rfl | hk | hk
  · rfl
  · cases hk
  · cases hk
theorem intact20 (b : Nat) (w : World) (G : GE20 w b) : Calls Try.prog 17 #[.pointer (some ⟨b, 0, none⟩)] w fun e w' => e = .returned (.bool true) ∧ Below w.heap.size w w' := by
  obtain ⟨B, v4, v5, La, Lb, G, e⟩ := G
  refine (intactM_any b B _ _ v4 v5 [] [] La Lb w G rfl e).mono ?_
  rintro e w' ⟨rfl, n, rfl⟩
  exact ⟨rfl, belN (Below.refl _ _) n⟩
theorem alGv20 (w : World) : (Instr.alloc 35 true (.tuple #[])).run Try.prog w = .ok (.pointer (some ⟨w.heap.size, 0, none⟩)) (w.alloc (.cells (List.replicate 10 (.slice none 0 0 : Value)).toArray 35)) := by kernel_rfl
set_option maxHeartbeats 2000000 in
theorem rincl_step (m : Nat) (ih : ∀ (l : List En) (a : Option Addr) (n c p : Nat) (w : World), SlY yE w a n c l → n < m → n ≤ 4398046511104 → 1 ≤ p → p ≤ n → (∀ x ∈ l, x.o.v.size ≤ 140737488351232) → Calls Try.prog 20 #[.slice a n c, .int .i64 (p : Int)] w fun e w' => ∃ v, e = .returned (.tuple #[v, .int .i64 0]) ∧ OwnY yH w.heap.size w' v (pu (l.map lf) p) ∧ Below w.heap.size w w') (l : List En) (a : Option Addr) (n c p : Nat) (w : World) (h : SlY yE w a n c l) (hm : n ≤ m) (hn : n ≤ 4398046511104) (hp1 : 1 ≤ p) (hp2 : p ≤ n) (hv : ∀ x ∈ l, x.o.v.size ≤ 140737488351232) :
    Calls Try.prog 20 #[.slice a n c, .int .i64 (p : Int)] w fun e w' => ∃ v, e = .returned (.tuple #[v, .int .i64 0]) ∧ OwnY yH w.heap.size w' v (pu (l.map lf) p) ∧ Below w.heap.size w w' := by
  have hln := h.len
  go_enter Try.func20, Try.ntmps20
  go_upto_region 0 with fail
  refine wp_region_lit ?_
  refine vl_gen (fun T => Rp T 60 [(1, gw true (.int .i64 ((p : Nat) : Int))), (0, gw true (.slice a n c))]) (((Rp.nil rfl).cons rfl).cons rfl) (fun Z0 q0 => ?_)
  refine q0.t (.slice none 0 0) (ex_assign rfl rfl) fun _ q1 => ?_;clear q0
  refine q1.t (.int .i64 ((0 : Nat) : Int)) (ex_assign rfl rfl) fun _ q2 => ?_;clear q1
  refine wpList_nil ?_
  go_upto_region 1 with fail
  refine wp_region_lit ?_
  refine q2.t (.int .i64 ((p : Nat) : Int)) (ex_move rfl (q2.e (j := 1) rfl)) fun _ q3 => ?_;clear q2
  refine q3.t (.bool false) (ex_bin (Y := .int .i64 ((1 : Nat) : Int)) rfl (q3.e (j := 11) rfl) rfl (ltF20 _ _ (by omega) _)) fun _ q4 => ?_;clear q3
  refine q4.t (.bool false) (ex_move rfl (q4.e (j := 12) rfl)) fun _ q5 => ?_;clear q4
  refine vl ((true && (false == false))) (.int .i64 ((p : Nat) : Int)) (want_g rfl rfl (q5.a 13 rfl)) (fun hc => ex_move rfl (q5.e (j := 1) rfl)) rfl q5.z (by decide) (q5.k fun _ q6 => ?_);clear q5
  refine vl ((true && (false == false))) (.slice a n c) (want_g rfl rfl (q6.a 13 rfl)) (fun hc => ex_move rfl (q6.e (j := 0) rfl)) rfl q6.z (by decide) (q6.k fun _ q7 => ?_);clear q6
  refine vl ((true && (false == false))) (.int .i64 ((n : Nat) : Int)) (want_g rfl rfl (q7.a 13 rfl)) (fun hc => ex_lenG rfl rfl Try.underlying22 (ev (q7.a 15 rfl) hc)) rfl q7.z (by decide) (q7.k fun _ q8 => ?_);clear q7
  refine vl ((true && (false == false))) (.bool false) (want_g rfl rfl (q8.a 13 rfl)) (fun hc => ex_bin rfl (ev (q8.a 14 rfl) hc) (ev (q8.a 16 rfl) hc) (gtF20 _ _ (by omega) _)) rfl q8.z (by decide) (q8.k fun _ q9 => ?_);clear q8
  refine q9.t (.bool false) (ex_or (c := true) (b := false) (z := false) rfl (q9.a 13 rfl) (q9.a 17 rfl) rfl) fun _ q10 => ?_;clear q9
  refine wpList_nil ?_
  go_upto_region 3 with fail
  refine wp_cond_false (q10.e (j := 18) rfl) ?_
  go_upto_region 3 with fail
  refine wp_region_lit ?_
  refine q10.t (.slice a n c) (ex_move rfl (q10.e (j := 0) rfl)) fun _ q11 => ?_;clear q10
  refine q11.t (.int .i64 ((n : Nat) : Int)) (ex_lenG rfl rfl Try.underlying22 (q11.e (j := 19) rfl)) fun _ q12 => ?_;clear q11
  by_cases h1 : n = 1
  · refine q12.t (.bool true) (ex_bin (Y := .int .i64 ((1 : Nat) : Int)) rfl (q12.e (j := 20) rfl) rfl (eqT20 _ _ (by omega) _)) fun _ q13 => ?_;clear q12
    refine wpList_nil ?_
    go_upto_region 4 with fail
    refine wp_cond_true (q13.e (j := 21) rfl) ?_
    go_upto_region 4 with fail
    refine wp_region_lit ?_
    refine q13.t (.slice none 0 0) (ex_assign rfl rfl) fun _ q14 => ?_;clear q13
    refine q14.t (.int .i64 ((0 : Nat) : Int)) (ex_assign rfl rfl) fun _ q15 => ?_;clear q14
    refine wpList_nil ?_
    go_wp2
    exact bodyPost_ret (results2_18 rfl (q15.a 4 rfl) (q15.a 5 rfl)) rfl ⟨_, rfl, by rw [pu_1 _ _ (by rw [List.length_map]; omega)]; exact OwnY.nil _ _ _, (Below.refl _ _)⟩
  · refine q12.t (.bool false) (ex_bin (Y := .int .i64 ((1 : Nat) : Int)) rfl (q12.e (j := 20) rfl) rfl (eqF20 _ _ (by omega) _)) fun _ q13 => ?_;clear q12
    refine wpList_nil ?_
    go_upto_region 5 with fail
    refine wp_cond_false (q13.e (j := 21) rfl) ?_
    have hb := lft_b (n := n) (by omega)
    obtain ⟨kq1, ko2, rfl, hkq1, lkq1⟩ := h.place (by rintro rfl; simp at hln; omega)
    have ckq1 := h.cap
    go_upto_region 5 with fail
    refine wp_region_lit ?_
    refine q13.t (.slice (some ⟨kq1, ko2, none⟩) n c) (ex_move rfl (q13.e (j := 0) rfl)) fun _ q14 => ?_;clear q13
    refine q14.t (.int .i64 ((n : Nat) : Int)) (ex_lenG rfl rfl Try.underlying22 (q14.e (j := 22) rfl)) fun _ q15 => ?_;clear q14
    refine vcallP (want_none rfl) (ex_call rfl (by simp only [List.map_toArray, List.map_cons, List.map_nil, (q15.e (j := 23) rfl), evc] <;> rfl) rfl) (rsplit20 n (by omega) (by omega) w) rfl q15.z (by decide) ?_
    rintro e w3 ⟨rfl, hw3⟩
    refine ⟨_, rfl, q15.k fun _ q16 => ?_⟩;clear q15
    have hw3 := hw3.symm
    subst hw3
    refine q16.t (.int .i64 ((lft n : Nat) : Int)) (ex_assign rfl (q16.e (j := 24) rfl)) fun _ q17 => ?_;clear q16
    refine wpList_nil ?_
    go_upto_region 6 with fail
    refine wp_region_lit ?_
    refine q17.t (.int .i64 ((p : Nat) : Int)) (ex_move rfl (q17.e (j := 1) rfl)) fun _ q18 => ?_;clear q17
    refine q18.t (.int .i64 ((lft n : Nat) : Int)) (ex_move rfl (q18.e (j := 6) rfl)) fun _ q19 => ?_;clear q18
    by_cases hp : p ≤ lft n
    · refine q19.t (.bool true) (ex_bin rfl (q19.e (j := 25) rfl) (q19.e (j := 26) rfl) (leT20 _ _ (by omega) _)) fun _ q20 => ?_;clear q19
      refine wpList_nil ?_
      go_upto_region 7 with fail
      refine wp_cond_true (q20.e (j := 27) rfl) ?_
      go_upto_region 7 with fail
      refine wp_region_lit ?_
      refine q20.t (.slice (some ⟨kq1, ko2, none⟩) n c) (ex_move rfl (q20.e (j := 0) rfl)) fun _ q21 => ?_;clear q20
      refine q21.t (.int .i64 ((lft n : Nat) : Int)) (ex_move rfl (q21.e (j := 6) rfl)) fun _ q22 => ?_;clear q21
      refine q22.t (.slice (some ⟨kq1, ko2, none⟩) (lft n) c) (ex_sl19 rfl (q22.e (j := 29) rfl) rfl (congrArg some (q22.e (j := 30) rfl)) rfl (slToE20 kq1 ko2 n c (lft n) (by omega) (ckq1) _)) fun _ q23 => ?_;clear q22
      refine q23.t (.int .i64 ((p : Nat) : Int)) (ex_move rfl (q23.e (j := 1) rfl)) fun _ q24 => ?_;clear q23
      refine vcallP (want_none rfl) (ex_call rfl (by simp only [List.map_toArray, List.map_cons, List.map_nil, (q24.e (j := 31) rfl), (q24.e (j := 32) rfl), evc] <;> rfl) rfl) (ih (l.take (lft n)) _ _ _ p w (h.take (lft n) (by omega)) (by omega) (by omega) (by omega) (by omega) (fun x hx => hv x (List.mem_of_mem_take hx))) rfl q24.z (by decide) ?_
      rintro e w4 ⟨v1, rfl, o1, bw4⟩
      refine ⟨_, rfl, q24.k fun _ q25 => ?_⟩;clear q24
      have zw4 := bw4.size
      have d5 : Below w.heap.size w w4 := bw4
      refine q25.t (.tuple #[v1, .int .i64 (0 : Int)]) (ex_move rfl (q25.e (j := 33) rfl)) fun _ q26 => ?_;clear q25
      refine q26.t (v1) (ex_ext18 rfl (q26.e (j := 28) rfl) rfl) fun _ q27 => ?_;clear q26
      refine q27.t (.int .i64 (0 : Int)) (ex_ext18 rfl (q27.e (j := 28) rfl) rfl) fun _ q28 => ?_;clear q27
      refine q28.t (v1) (ex_assign rfl (q28.e (j := 34) rfl)) fun _ q29 => ?_;clear q28
      refine q29.t (.int .i64 (0 : Int)) (ex_assign rfl (q29.e (j := 35) rfl)) fun _ q30 => ?_;clear q29
      refine wpList_nil ?_
      go_upto_region 8 with fail
      refine wp_region_lit ?_
      refine q30.t (v1) (ex_move rfl (q30.e (j := 7) rfl)) fun _ q31 => ?_;clear q30
      refine q31.t (.slice (some ⟨kq1, ko2, none⟩) n c) (ex_move rfl (q31.e (j := 0) rfl)) fun _ q32 => ?_;clear q31
      refine q32.t (.int .i64 ((lft n : Nat) : Int)) (ex_move rfl (q32.e (j := 6) rfl)) fun _ q33 => ?_;clear q32
      refine q33.t (.slice (some (if c = lft n then ⟨kq1, ko2, none⟩ else ⟨kq1, ko2 + (lft n) * 5, none⟩)) (n - (lft n)) (c - (lft n))) (ex_sl19 rfl (q33.e (j := 37) rfl) (congrArg some (q33.e (j := 38) rfl)) rfl rfl (slFromE20 kq1 ko2 n c (lft n) (by omega) (ckq1) _)) fun _ q34 => ?_;clear q33
      refine vcallP (want_none rfl) (ex_call rfl (by simp only [List.map_toArray, List.map_cons, List.map_nil, (q34.e (j := 39) rfl), evc] <;> rfl) rfl) (rhead20 (l.drop (lft n)) _ _ _ w4 ((h.later d5).from20 (lft n) (by omega)) (by omega) (fun x hx => hv x (List.mem_of_mem_drop hx))) rfl q34.z (by decide) ?_
      rintro e w6 ⟨rfl, bw6⟩
      refine ⟨_, rfl, q34.k fun _ q35 => ?_⟩;clear q34
      have zw6 := bw6.size
      have d7 : Below w.heap.size w w6 := d5.trans (bw6.mono d5.size)
      obtain ⟨w8, hw8⟩ : ∃ y, y = w6.alloc (.cells (hd ((l.drop (lft n)).map lf)).cs.toArray 24) := ⟨_, rfl⟩
      refine vw (.slice (some ⟨w6.heap.size, 0, none⟩) 1 1) w8 (want_none rfl) (ex_bs18 rfl (q35.e (j := 40) rfl) (by rw [hw8]; exact bsH20 _ _)) rfl q35.z (by decide) (q35.k fun _ q36 => ?_);clear q35
      have sw8 : SlY yH w8 (some ⟨w6.heap.size, 0, none⟩) 1 1 [hd ((l.drop (lft n)).map lf)] := by rw [hw8]; exact sl1H _ _
      have ow8 : OwnY yH w6.heap.size w8 (.slice (some ⟨w6.heap.size, 0, none⟩) 1 1) [hd ((l.drop (lft n)).map lf)] := by rw [hw8]; exact own1H _ _
      have bw8 : Below w6.heap.size w6 w8 := by rw [hw8]; exact (Below.refl _ _).alloc (Nat.le_refl _) _
      have zw8 := bw8.size
      clear hw8
      have d9 : Below w.heap.size w w8 := d7.trans (bw8.mono d7.size)
      have hlpo11 : (pu ((l.take (lft n)).map lf) p).length + 1 ≤ 4398046511104 := by have e1 := pu_len (lft n) ((l.take (lft n)).map lf) p (by rw [List.length_map, List.length_take]; omega) (by omega); have e2 := su_le (lft n) p (by omega); omega
      obtain ⟨v12, w10, hao11, o11, go11, _⟩ := run_appY kH w8 42 w.heap.size (pu ((l.take (lft n)).map lf) p) v1 _ 1 1 [hd ((l.drop (lft n)).map lf)] sw8 (((o1.grow bw6).grow bw8).low (B' := w.heap.size) (by omega)) (by omega) (by unfold maxLen; omega) (by show ((pu ((l.take (lft n)).map lf) p).length + 1) * 32 ≤ _; omega)
      refine vw v12 w10 (want_none rfl) (ex_app18 rfl (q36.e (j := 36) rfl) (q36.e (j := 41) rfl) hao11) rfl q36.z (by decide) (q36.k fun _ q37 => ?_);clear q36
      have d13 := (((o1.grow bw6).grow bw8).low (B' := w.heap.size) (by omega)).grown d9 go11 (by omega)
      refine q37.t (v12) (ex_assign rfl (q37.e (j := 42) rfl)) fun _ q38 => ?_;clear q37
      refine q38.t (.int .i64 ((0 : Nat) : Int)) (ex_assign rfl rfl) fun _ q39 => ?_;clear q38
      refine wpList_nil ?_
      go_wp2
      have e9 := pu_l (l.map lf) p (by rw [List.length_map]; omega) (by rw [List.length_map, hln]; omega)
      rw [List.length_map, hln, ← List.map_take, ← List.map_drop] at e9
      exact bodyPost_ret (results2_18 rfl (q39.a 4 rfl) (q39.a 5 rfl)) rfl ⟨_, rfl, by rw [e9]; exact o11, d13⟩
    · refine q19.t (.bool false) (ex_bin rfl (q19.e (j := 25) rfl) (q19.e (j := 26) rfl) (leF20 _ _ (by omega) _)) fun _ q20 => ?_;clear q19
      refine wpList_nil ?_
      go_upto_region 9 with fail
      refine wp_cond_false (q20.e (j := 27) rfl) ?_
      go_upto_region 9 with fail
      refine wp_region_lit ?_
      refine q20.t (.slice (some ⟨kq1, ko2, none⟩) n c) (ex_move rfl (q20.e (j := 0) rfl)) fun _ q21 => ?_;clear q20
      refine q21.t (.int .i64 ((lft n : Nat) : Int)) (ex_move rfl (q21.e (j := 6) rfl)) fun _ q22 => ?_;clear q21
      refine q22.t (.slice (some (if c = lft n then ⟨kq1, ko2, none⟩ else ⟨kq1, ko2 + (lft n) * 5, none⟩)) (n - (lft n)) (c - (lft n))) (ex_sl19 rfl (q22.e (j := 44) rfl) (congrArg some (q22.e (j := 45) rfl)) rfl rfl (slFromE20 kq1 ko2 n c (lft n) (by omega) (ckq1) _)) fun _ q23 => ?_;clear q22
      refine q23.t (.int .i64 ((p : Nat) : Int)) (ex_move rfl (q23.e (j := 1) rfl)) fun _ q24 => ?_;clear q23
      refine q24.t (.int .i64 ((lft n : Nat) : Int)) (ex_move rfl (q24.e (j := 6) rfl)) fun _ q25 => ?_;clear q24
      refine q25.t (.int .i64 ((p - (lft n) : Nat) : Int)) (ex_bin rfl (q25.e (j := 47) rfl) (q25.e (j := 48) rfl) (subP _ _ p (lft n) (by omega) (by omega) _)) fun _ q26 => ?_;clear q25
      refine vcallP (want_none rfl) (ex_call rfl (by simp only [List.map_toArray, List.map_cons, List.map_nil, (q26.e (j := 46) rfl), (q26.e (j := 49) rfl), evc] <;> rfl) rfl) (ih (l.drop (lft n)) _ _ _ (p - (lft n)) w (h.from20 (lft n) (by omega)) (by omega) (by omega) (by omega) (by omega) (fun x hx => hv x (List.mem_of_mem_drop hx))) rfl q26.z (by decide) ?_
      rintro e w4 ⟨v1, rfl, o1, bw4⟩
      refine ⟨_, rfl, q26.k fun _ q27 => ?_⟩;clear q26
      have zw4 := bw4.size
      have d5 : Below w.heap.size w w4 := bw4
      refine q27.t (.tuple #[v1, .int .i64 (0 : Int)]) (ex_move rfl (q27.e (j := 50) rfl)) fun _ q28 => ?_;clear q27
      refine q28.t (v1) (ex_ext18 rfl (q28.e (j := 43) rfl) rfl) fun _ q29 => ?_;clear q28
      refine q29.t (.int .i64 (0 : Int)) (ex_ext18 rfl (q29.e (j := 43) rfl) rfl) fun _ q30 => ?_;clear q29
      refine q30.t (v1) (ex_assign rfl (q30.e (j := 51) rfl)) fun _ q31 => ?_;clear q30
      refine q31.t (.int .i64 (0 : Int)) (ex_assign rfl (q31.e (j := 52) rfl)) fun _ q32 => ?_;clear q31
      refine wpList_nil ?_
      go_upto_region 10 with fail
      refine wp_region_lit ?_
      refine q32.t (v1) (ex_move rfl (q32.e (j := 9) rfl)) fun _ q33 => ?_;clear q32
      refine q33.t (.slice (some ⟨kq1, ko2, none⟩) n c) (ex_move rfl (q33.e (j := 0) rfl)) fun _ q34 => ?_;clear q33
      refine q34.t (.int .i64 ((lft n : Nat) : Int)) (ex_move rfl (q34.e (j := 6) rfl)) fun _ q35 => ?_;clear q34
      refine q35.t (.slice (some ⟨kq1, ko2, none⟩) (lft n) c) (ex_sl19 rfl (q35.e (j := 54) rfl) rfl (congrArg some (q35.e (j := 55) rfl)) rfl (slToE20 kq1 ko2 n c (lft n) (by omega) (ckq1) _)) fun _ q36 => ?_;clear q35
      refine vcallP (want_none rfl) (ex_call rfl (by simp only [List.map_toArray, List.map_cons, List.map_nil, (q36.e (j := 56) rfl), evc] <;> rfl) rfl) (rhead20 (l.take (lft n)) _ _ _ w4 ((h.later d5).take (lft n) (by omega)) (by omega) (fun x hx => hv x (List.mem_of_mem_take hx))) rfl q36.z (by decide) ?_
      rintro e w6 ⟨rfl, bw6⟩
      refine ⟨_, rfl, q36.k fun _ q37 => ?_⟩;clear q36
      have zw6 := bw6.size
      have d7 : Below w.heap.size w w6 := d5.trans (bw6.mono d5.size)
      obtain ⟨w8, hw8⟩ : ∃ y, y = w6.alloc (.cells (hd ((l.take (lft n)).map lf)).cs.toArray 24) := ⟨_, rfl⟩
      refine vw (.slice (some ⟨w6.heap.size, 0, none⟩) 1 1) w8 (want_none rfl) (ex_bs18 rfl (q37.e (j := 57) rfl) (by rw [hw8]; exact bsH20 _ _)) rfl q37.z (by decide) (q37.k fun _ q38 => ?_);clear q37
      have sw8 : SlY yH w8 (some ⟨w6.heap.size, 0, none⟩) 1 1 [hd ((l.take (lft n)).map lf)] := by rw [hw8]; exact sl1H _ _
      have ow8 : OwnY yH w6.heap.size w8 (.slice (some ⟨w6.heap.size, 0, none⟩) 1 1) [hd ((l.take (lft n)).map lf)] := by rw [hw8]; exact own1H _ _
      have bw8 : Below w6.heap.size w6 w8 := by rw [hw8]; exact (Below.refl _ _).alloc (Nat.le_refl _) _
      have zw8 := bw8.size
      clear hw8
      have d9 : Below w.heap.size w w8 := d7.trans (bw8.mono d7.size)
      have hlpo11 : (pu ((l.drop (lft n)).map lf) (p - (lft n))).length + 1 ≤ 4398046511104 := by have e1 := pu_len (n - lft n) ((l.drop (lft n)).map lf) (p - (lft n)) (by rw [List.length_map, List.length_drop]; omega) (by omega); have e2 := su_le (n - lft n) (p - (lft n)) (by omega); omega
      obtain ⟨v12, w10, hao11, o11, go11, _⟩ := run_appY kH w8 42 w.heap.size (pu ((l.drop (lft n)).map lf) (p - (lft n))) v1 _ 1 1 [hd ((l.take (lft n)).map lf)] sw8 (((o1.grow bw6).grow bw8).low (B' := w.heap.size) (by omega)) (by omega) (by unfold maxLen; omega) (by show ((pu ((l.drop (lft n)).map lf) (p - (lft n))).length + 1) * 32 ≤ _; omega)
      refine vw v12 w10 (want_none rfl) (ex_app18 rfl (q38.e (j := 53) rfl) (q38.e (j := 58) rfl) hao11) rfl q38.z (by decide) (q38.k fun _ q39 => ?_);clear q38
      have d13 := (((o1.grow bw6).grow bw8).low (B' := w.heap.size) (by omega)).grown d9 go11 (by omega)
      refine q39.t (v12) (ex_assign rfl (q39.e (j := 59) rfl)) fun _ q40 => ?_;clear q39
      refine q40.t (.int .i64 ((0 : Nat) : Int)) (ex_assign rfl rfl) fun _ q41 => ?_;clear q40
      refine wpList_nil ?_
      go_wp2
      have e9 := pu_r (l.map lf) p (by rw [List.length_map]; omega) (by rw [List.length_map, hln]; omega)
      rw [List.length_map, hln, ← List.map_take, ← List.map_drop] at e9
      exact bodyPost_ret (results2_18 rfl (q41.a 4 rfl) (q41.a 5 rfl)) rfl ⟨_, rfl, by rw [e9]; exact o11, d13⟩
theorem rinclN20 (l : List En) (a : Option Addr) (n c p : Nat) (w : World) (h : SlY yE w a n c l) (hn : n ≤ 4398046511104) (hp1 : 1 ≤ p) (hp2 : p ≤ n) (hv : ∀ x ∈ l, x.o.v.size ≤ 140737488351232) :
    Calls Try.prog 20 #[.slice a n c, .int .i64 (p : Int)] w fun e w' => ∃ v, e = .returned (.tuple #[v, .int .i64 0]) ∧ OwnY yH w.heap.size w' v (pu (l.map lf) p) ∧ Below w.heap.size w w' := by
  have H : ∀ m, ∀ (l : List En) (a : Option Addr) (n c p : Nat) (w : World), SlY yE w a n c l → n < m → n ≤ 4398046511104 → 1 ≤ p → p ≤ n → (∀ x ∈ l, x.o.v.size ≤ 140737488351232) → Calls Try.prog 20 #[.slice a n c, .int .i64 (p : Int)] w fun e w' => ∃ v, e = .returned (.tuple #[v, .int .i64 0]) ∧ OwnY yH w.heap.size w' v (pu (l.map lf) p) ∧ Below w.heap.size w w' := by
    intro m
    induction m with
    | zero => intro l a n c p w _ h; omega
    | succ m ih => exact fun l a n c p w h hm hn h1 h2 hv => rincl_step m ih l a n c p w h (by omega) hn h1 h2 hv
  exact H (n + 1) l a n c p w h (by omega) hn hp1 hp2 hv
set_option maxHeartbeats 2000000 in
theorem rinclB20 (l : List En) (a : Option Addr) (n c : Nat) (p : Int) (w : World) (h : SlY yE w a n c l) (hb : p < 1 ∨ (n : Int) < p) :
    Calls Try.prog 20 #[.slice a n c, .int .i64 p] w fun e w' => ∃ v, e = .returned (.tuple #[v, .int .i64 (inR (l.map lf) p).2]) ∧ OwnY yH w.heap.size w' v (inR (l.map lf) p).1 ∧ Below w.heap.size w w' := by
  have hln := h.len
  have hi : inR (l.map lf) p = ([], 61) := by unfold inR; rw [List.length_map, hln, if_pos hb]
  go_enter Try.func20, Try.ntmps20
  go_upto_region 0 with fail
  refine wp_region_lit ?_
  refine vl_gen (fun T => Rp T 60 [(1, gw true (.int .i64 (p : Int))), (0, gw true (.slice a n c))]) (((Rp.nil rfl).cons rfl).cons rfl) (fun Z0 q0 => ?_)
  refine q0.t (.slice none 0 0) (ex_assign rfl rfl) fun _ q1 => ?_;clear q0
  refine q1.t (.int .i64 ((0 : Nat) : Int)) (ex_assign rfl rfl) fun _ q2 => ?_;clear q1
  refine wpList_nil ?_
  go_upto_region 1 with fail
  refine wp_region_lit ?_
  refine q2.t (.int .i64 (p : Int)) (ex_move rfl (q2.e (j := 1) rfl)) fun _ q3 => ?_;clear q2
  by_cases h1 : p < 1
  · refine q3.t (.bool true) (ex_bin (Y := .int .i64 ((1 : Nat) : Int)) rfl (q3.e (j := 11) rfl) rfl (ltT20 _ _ (by omega) _)) fun _ q4 => ?_;clear q3
    refine q4.t (.bool true) (ex_move rfl (q4.e (j := 12) rfl)) fun _ q5 => ?_;clear q4
    refine vl ((true && (true == false))) (undef) (want_g rfl rfl (q5.a 13 rfl)) (fun hc => absurd hc (by decide)) rfl q5.z (by decide) (q5.k fun _ q6 => ?_);clear q5
    refine vl ((true && (true == false))) (undef) (want_g rfl rfl (q6.a 13 rfl)) (fun hc => absurd hc (by decide)) rfl q6.z (by decide) (q6.k fun _ q7 => ?_);clear q6
    refine vl ((true && (true == false))) (undef) (want_g rfl rfl (q7.a 13 rfl)) (fun hc => absurd hc (by decide)) rfl q7.z (by decide) (q7.k fun _ q8 => ?_);clear q7
    refine vl ((true && (true == false))) (.bool false) (want_g rfl rfl (q8.a 13 rfl)) (fun hc => absurd hc (by decide)) rfl q8.z (by decide) (q8.k fun _ q9 => ?_);clear q8
    refine q9.t (.bool true) (ex_or (c := true) (b := true) (z := false) rfl (q9.a 13 rfl) (q9.a 17 rfl) rfl) fun _ q10 => ?_;clear q9
    refine wpList_nil ?_
    go_upto_region 2 with fail
    refine wp_cond_true (q10.e (j := 18) rfl) ?_
    go_upto_region 2 with fail
    refine wp_region_lit ?_
    refine q10.t (.slice none 0 0) (ex_assign rfl rfl) fun _ q11 => ?_;clear q10
    refine q11.t (.int .i64 ((61 : Nat) : Int)) (ex_assign rfl rfl) fun _ q12 => ?_;clear q11
    refine wpList_nil ?_
    go_wp2
    exact bodyPost_ret (results2_18 rfl (q12.a 4 rfl) (q12.a 5 rfl)) rfl ⟨.slice none 0 0, by rw [hi]; rfl, by rw [hi]; exact OwnY.nil _ _ _, (Below.refl _ _)⟩
  · refine q3.t (.bool false) (ex_bin (Y := .int .i64 ((1 : Nat) : Int)) rfl (q3.e (j := 11) rfl) rfl (ltF20 _ _ (by omega) _)) fun _ q4 => ?_;clear q3
    refine q4.t (.bool false) (ex_move rfl (q4.e (j := 12) rfl)) fun _ q5 => ?_;clear q4
    refine vl ((true && (false == false))) (.int .i64 (p : Int)) (want_g rfl rfl (q5.a 13 rfl)) (fun hc => ex_move rfl (q5.e (j := 1) rfl)) rfl q5.z (by decide) (q5.k fun _ q6 => ?_);clear q5
    refine vl ((true && (false == false))) (.slice a n c) (want_g rfl rfl (q6.a 13 rfl)) (fun hc => ex_move rfl (q6.e (j := 0) rfl)) rfl q6.z (by decide) (q6.k fun _ q7 => ?_);clear q6
    refine vl ((true && (false == false))) (.int .i64 ((n : Nat) : Int)) (want_g rfl rfl (q7.a 13 rfl)) (fun hc => ex_lenG rfl rfl Try.underlying22 (ev (q7.a 15 rfl) hc)) rfl q7.z (by decide) (q7.k fun _ q8 => ?_);clear q7
    refine vl ((true && (false == false))) (.bool true) (want_g rfl rfl (q8.a 13 rfl)) (fun hc => ex_bin rfl (ev (q8.a 14 rfl) hc) (ev (q8.a 16 rfl) hc) (gtT20 _ _ (by omega) _)) rfl q8.z (by decide) (q8.k fun _ q9 => ?_);clear q8
    refine q9.t (.bool true) (ex_or (c := true) (b := false) (z := true) rfl (q9.a 13 rfl) (q9.a 17 rfl) rfl) fun _ q10 => ?_;clear q9
    refine wpList_nil ?_
    go_upto_region 2 with fail
    refine wp_cond_true (q10.e (j := 18) rfl) ?_
    go_upto_region 2 with fail
    refine wp_region_lit ?_
    refine q10.t (.slice none 0 0) (ex_assign rfl rfl) fun _ q11 => ?_;clear q10
    refine q11.t (.int .i64 ((61 : Nat) : Int)) (ex_assign rfl rfl) fun _ q12 => ?_;clear q11
    refine wpList_nil ?_
    go_wp2
    exact bodyPost_ret (results2_18 rfl (q12.a 4 rfl) (q12.a 5 rfl)) rfl ⟨.slice none 0 0, by rw [hi]; rfl, by rw [hi]; exact OwnY.nil _ _ _, (Below.refl _ _)⟩
theorem rincl20 (l : List En) (a : Option Addr) (n c : Nat) (p : Int) (w : World) (h : SlY yE w a n c l) (hn : n ≤ 4398046511104) (hv : ∀ x ∈ l, x.o.v.size ≤ 140737488351232) :
    Calls Try.prog 20 #[.slice a n c, .int .i64 p] w fun e w' => ∃ v, e = .returned (.tuple #[v, .int .i64 (inR (l.map lf) p).2]) ∧ OwnY yH w.heap.size w' v (inR (l.map lf) p).1 ∧ Below w.heap.size w w' := by
  by_cases hb : p < 1 ∨ (n : Int) < p
  · exact rinclB20 l a n c p w h hb
  · obtain ⟨k, rfl⟩ : ∃ k : Nat, p = (k : Int) := ⟨p.toNat, by omega⟩
    have hi : inR (l.map lf) (k : Int) = (pu (l.map lf) k, 0) := in_ok (by omega) (by rw [List.length_map, h.len]; omega)
    rw [hi]
    exact rinclN20 l a n c k w h hn (by omega) (by omega) hv
set_option maxHeartbeats 2000000 in
theorem rsub_step (m : Nat) (ih : ∀ (l : List En) (a : Option Addr) (n c p : Nat) (wh : Bool) (w : World), SlY yE w a n c l → n < m → n ≤ 4398046511104 → 1 ≤ p → p ≤ n → (∀ x ∈ l, x.o.v.size ≤ 140737488351232) → Calls Try.prog 53 #[.int .i64 (p : Int), .slice a n c, .bool wh] w fun e w' => ∃ v, e = .returned v ∧ OwnY yH w.heap.size w' v (pa (l.map lf) p wh) ∧ Below w.heap.size w w') (l : List En) (a : Option Addr) (n c p : Nat) (wh : Bool) (w : World) (h : SlY yE w a n c l) (hm : n ≤ m) (hn : n ≤ 4398046511104) (hp1 : 1 ≤ p) (hp2 : p ≤ n) (hv : ∀ x ∈ l, x.o.v.size ≤ 140737488351232) :
    Calls Try.prog 53 #[.int .i64 (p : Int), .slice a n c, .bool wh] w fun e w' => ∃ v, e = .returned v ∧ OwnY yH w.heap.size w' v (pa (l.map lf) p wh) ∧ Below w.heap.size w w' := by
  have hln := h.len
  go_enter Try.func53, Try.ntmps53
  go_upto_region 0 with fail
  refine wp_region_lit ?_
  refine vl_gen (fun T => Rp T 47 [(2, gw true (.bool (wh))), (1, gw true (.slice a n c)), (0, gw true (.int .i64 ((p : Nat) : Int)))]) ((((Rp.nil rfl).cons rfl).cons rfl).cons rfl) (fun Z0 q0 => ?_)
  refine q0.t (.slice none 0 0) (ex_assign rfl rfl) fun _ q1 => ?_;clear q0
  refine wpList_nil ?_
  go_upto_region 1 with fail
  refine wp_region_lit ?_
  refine q1.t (.int .i64 ((p : Nat) : Int)) (ex_move rfl (q1.e (j := 0) rfl)) fun _ q2 => ?_;clear q1
  refine q2.t (.slice a n c) (ex_move rfl (q2.e (j := 1) rfl)) fun _ q3 => ?_;clear q2
  refine q3.t (.int .i64 ((n : Nat) : Int)) (ex_lenG rfl rfl Try.underlying22 (q3.e (j := 9) rfl)) fun _ q4 => ?_;clear q3
  by_cases h1 : p = n
  · refine q4.t (.bool true) (ex_bin rfl (q4.e (j := 8) rfl) (q4.e (j := 10) rfl) (eqT20 _ _ (by omega) _)) fun _ q5 => ?_;clear q4
    refine wpList_nil ?_
    go_upto_region 2 with fail
    refine wp_cond_true (q5.e (j := 11) rfl) ?_
    go_upto_region 2 with fail
    refine wp_region_lit ?_
    refine q5.t (.bool (wh)) (ex_move rfl (q5.e (j := 2) rfl)) fun _ q6 => ?_;clear q5
    refine wpList_nil ?_
    cases hwh : wh
    · rw [hwh] at q6
      have hpe : pa (l.map lf) p false = [hd (l.map lf)] := by have := pa_e (l.map lf) false; rw [List.length_map, hln, ← h1] at this; exact this
      have hwhh := hide hwh
      clear hwh
      go_upto_region 4 with fail
      refine wp_cond_false (q6.e (j := 12) rfl) ?_
      go_upto_region 4 with fail
      refine wp_region_lit ?_
      refine q6.t (.slice a n c) (ex_move rfl (q6.e (j := 1) rfl)) fun _ q7 => ?_;clear q6
      refine vcallP (want_none rfl) (ex_call rfl (by simp only [List.map_toArray, List.map_cons, List.map_nil, (q7.e (j := 13) rfl), evc] <;> rfl) rfl) (rhead20 (l) _ _ _ w h (by omega) hv) rfl q7.z (by decide) ?_
      rintro e w1 ⟨rfl, bw1⟩
      refine ⟨_, rfl, q7.k fun _ q8 => ?_⟩;clear q7
      have zw1 := bw1.size
      have d2 : Below w.heap.size w w1 := bw1
      obtain ⟨w3, hw3⟩ : ∃ y, y = w1.alloc (.cells (hd ((l).map lf)).cs.toArray 24) := ⟨_, rfl⟩
      refine vw (.slice (some ⟨w1.heap.size, 0, none⟩) 1 1) w3 (want_none rfl) (ex_bs18 rfl (q8.e (j := 14) rfl) (by rw [hw3]; exact bsH20 _ _)) rfl q8.z (by decide) (q8.k fun _ q9 => ?_);clear q8
      have sw3 : SlY yH w3 (some ⟨w1.heap.size, 0, none⟩) 1 1 [hd ((l).map lf)] := by rw [hw3]; exact sl1H _ _
      have ow3 : OwnY yH w1.heap.size w3 (.slice (some ⟨w1.heap.size, 0, none⟩) 1 1) [hd ((l).map lf)] := by rw [hw3]; exact own1H _ _
      have bw3 : Below w1.heap.size w1 w3 := by rw [hw3]; exact (Below.refl _ _).alloc (Nat.le_refl _) _
      have zw3 := bw3.size
      clear hw3
      have d4 : Below w.heap.size w w3 := d2.trans (bw3.mono d2.size)
      refine q9.t (.slice (some ⟨w1.heap.size, 0, none⟩) 1 1) (ex_assign rfl (q9.e (j := 15) rfl)) fun _ q10 => ?_;clear q9
      refine wpList_nil ?_
      go_wp2
      refine bodyPost_ret (results_tmp rfl _ _ _) rfl ?_
      rw [getD_of (q10.a 6 rfl)]
      exact ⟨_, rfl, by rw [hwhh.out, hpe]; exact (ow3).low (by omega), d4⟩
    · rw [hwh] at q6
      have hpe : pa (l.map lf) p true = [] := by have := pa_e (l.map lf) true; rw [List.length_map, hln, ← h1] at this; exact this
      have hwhh := hide hwh
      clear hwh
      go_upto_region 3 with fail
      refine wp_cond_true (q6.e (j := 12) rfl) ?_
      go_upto_region 3 with fail
      refine wp_region_lit ?_
      refine q6.t (.slice none 0 0) (ex_assign rfl rfl) fun _ q7 => ?_;clear q6
      refine wpList_nil ?_
      go_wp2
      refine bodyPost_ret (results_tmp rfl _ _ _) rfl ?_
      rw [getD_of (q7.a 6 rfl)]
      exact ⟨_, rfl, by rw [hwhh.out, hpe]; exact OwnY.nil _ _ _, (Below.refl _ _)⟩
  · refine q4.t (.bool false) (ex_bin rfl (q4.e (j := 8) rfl) (q4.e (j := 10) rfl) (eqF20 _ _ (by omega) _)) fun _ q5 => ?_;clear q4
    refine wpList_nil ?_
    go_upto_region 5 with fail
    refine wp_cond_false (q5.e (j := 11) rfl) ?_
    have hb := lft_b (n := n) (by omega)
    obtain ⟨kq1, ko2, rfl, hkq1, lkq1⟩ := h.place (by rintro rfl; simp at hln; omega)
    have ckq1 := h.cap
    go_upto_region 5 with fail
    refine wp_region_lit ?_
    refine q5.t (.slice (some ⟨kq1, ko2, none⟩) n c) (ex_move rfl (q5.e (j := 1) rfl)) fun _ q6 => ?_;clear q5
    refine q6.t (.int .i64 ((n : Nat) : Int)) (ex_lenG rfl rfl Try.underlying22 (q6.e (j := 16) rfl)) fun _ q7 => ?_;clear q6
    refine vcallP (want_none rfl) (ex_call rfl (by simp only [List.map_toArray, List.map_cons, List.map_nil, (q7.e (j := 17) rfl), evc] <;> rfl) rfl) (rsplit20 n (by omega) (by omega) w) rfl q7.z (by decide) ?_
    rintro e w3 ⟨rfl, hw3⟩
    refine ⟨_, rfl, q7.k fun _ q8 => ?_⟩;clear q7
    have hw3 := hw3.symm
    subst hw3
    refine q8.t (.int .i64 ((lft n : Nat) : Int)) (ex_assign rfl (q8.e (j := 18) rfl)) fun _ q9 => ?_;clear q8
    refine wpList_nil ?_
    go_upto_region 6 with fail
    refine wp_region_lit ?_
    refine q9.t (.int .i64 ((p : Nat) : Int)) (ex_move rfl (q9.e (j := 0) rfl)) fun _ q10 => ?_;clear q9
    refine q10.t (.int .i64 ((lft n : Nat) : Int)) (ex_move rfl (q10.e (j := 7) rfl)) fun _ q11 => ?_;clear q10
    by_cases hp : p ≤ lft n
    · refine q11.t (.bool true) (ex_bin rfl (q11.e (j := 19) rfl) (q11.e (j := 20) rfl) (leT20 _ _ (by omega) _)) fun _ q12 => ?_;clear q11
      refine wpList_nil ?_
      go_upto_region 7 with fail
      refine wp_cond_true (q12.e (j := 21) rfl) ?_
      go_upto_region 7 with fail
      have hs1 := h
      refine vg_start (fun k => false) (fun _ => True) (by kernel_rfl) ?_
      have hy0 : Below w.heap.size w w.drew := (Below.refl _ _).drew
      have hzy0 : w.drew.heap.size = w.heap.size := rfl
      generalize w.drew = y0 at *
      have hS := hs1.later hy0
      have sT := hS.take (lft n) (by omega)
      have sF := hS.from20 (lft n) (by omega)
      refine vg_takeW 0 true (.int .i64 ((p : Nat) : Int)) rfl (by kernel_rfl) (by kernel_rfl) (by kernel_rfl) (by kernel_rfl) (want_none rfl) (fun hc v => ex_move rfl (q12.e (j := 0) rfl)) rfl q12.z (by decide) (fun _ => trivial) (q12.k fun _ q13 => ?_);clear q12
      refine vg_takeW 1 true (.slice (some ⟨kq1, ko2, none⟩) n c) rfl (by kernel_rfl) (by kernel_rfl) (by kernel_rfl) (by kernel_rfl) (want_none rfl) (fun hc v => ex_move rfl (q13.e (j := 1) rfl)) rfl q13.z (by decide) (fun _ => trivial) (q13.k fun _ q14 => ?_);clear q13
      refine vg_takeW 2 true (.int .i64 ((lft n : Nat) : Int)) rfl (by kernel_rfl) (by kernel_rfl) (by kernel_rfl) (by kernel_rfl) (want_none rfl) (fun hc v => ex_move rfl (q14.e (j := 7) rfl)) rfl q14.z (by decide) (fun _ => trivial) (q14.k fun _ q15 => ?_);clear q14
      refine vg_takeW 3 true (.slice (some ⟨kq1, ko2, none⟩) (lft n) c) rfl (by kernel_rfl) (by kernel_rfl) (by kernel_rfl) (by kernel_rfl) (want_none rfl) (fun hc v => ex_sl19 rfl (q15.e (j := 23) rfl) rfl (congrArg some (q15.e (j := 24) rfl)) rfl (slToE20 kq1 ko2 n c (lft n) (by omega) (ckq1) _)) rfl q15.z (by decide) (fun _ => trivial) (q15.k fun _ q16 => ?_);clear q15
      refine vg_takeW 4 true (.bool wh) rfl (by kernel_rfl) (by kernel_rfl) (by kernel_rfl) (by kernel_rfl) (want_none rfl) (fun hc v => ex_move rfl (q16.e (j := 2) rfl)) rfl q16.z (by decide) (fun _ => trivial) (q16.k fun _ q17 => ?_);clear q16
      refine vg_takeW 6 true (.slice (some ⟨kq1, ko2, none⟩) n c) rfl (by kernel_rfl) (by kernel_rfl) (by kernel_rfl) (by kernel_rfl) (want_none rfl) (fun hc v => ex_move rfl (q17.e (j := 1) rfl)) rfl q17.z (by decide) (fun _ => trivial) (q17.k fun _ q18 => ?_);clear q17
      refine vg_takeW 7 true (.int .i64 ((lft n : Nat) : Int)) rfl (by kernel_rfl) (by kernel_rfl) (by kernel_rfl) (by kernel_rfl) (want_none rfl) (fun hc v => ex_move rfl (q18.e (j := 7) rfl)) rfl q18.z (by decide) (fun _ => trivial) (q18.k fun _ q19 => ?_);clear q18
      refine vg_takeW 8 true (.slice (some (if c = lft n then ⟨kq1, ko2, none⟩ else ⟨kq1, ko2 + (lft n) * 5, none⟩)) (n - lft n) (c - lft n)) rfl (by kernel_rfl) (by kernel_rfl) (by kernel_rfl) (by kernel_rfl) (want_none rfl) (fun hc v => ex_sl19 rfl (q19.e (j := 28) rfl) (congrArg some (q19.e (j := 29) rfl)) rfl rfl (slFromE20 kq1 ko2 n c (lft n) (by omega) (ckq1) _)) rfl q19.z (by decide) (fun _ => trivial) (q19.k fun _ q20 => ?_);clear q19
      refine vg_call 5 rfl (by kernel_rfl) (want_none rfl) (ex_call rfl (by simp only [List.map_toArray, List.map_cons, List.map_nil, (q20.e (j := 22) rfl), (q20.e (j := 25) rfl), (q20.e (j := 26) rfl), evc] <;> rfl) rfl) (ih _ _ _ _ p wh y0 sT (by omega) (by omega) (by omega) (by omega) (fun x hx => hv x (List.mem_of_mem_take hx))) rfl q20.z (by decide) ?_
      rintro e d1 ⟨v1, rfl, o1, b1⟩
      have z1 := b1.size
      have sO := sF.later b1
      refine ⟨_, rfl, trivial, q20.k fun _ q21 => ?_⟩;clear q20
      refine vg_call 9 rfl (by kernel_rfl) (want_none rfl) (ex_call rfl (by simp only [List.map_toArray, List.map_cons, List.map_nil, (q21.e (j := 30) rfl), evc] <;> rfl) rfl) (rhead20 _ _ _ _ d1 sO (by omega) (fun x hx => hv x (List.mem_of_mem_drop hx))) rfl q21.z (by decide) ?_
      rintro e d2 ⟨rfl, b2⟩
      have z2 := b2.size
      have o2 := o1.grow b2
      refine ⟨_, rfl, trivial, q21.k fun _ q22 => ?_⟩;clear q21
      obtain ⟨d3, hd3⟩ : ∃ y, y = d2.alloc (.cells (hd ((l.drop (lft n)).map lf)).cs.toArray 24) := ⟨_, rfl⟩
      refine vg_val 10 (.slice (some ⟨d2.heap.size, 0, none⟩) 1 1) d3 rfl (by kernel_rfl) (want_none rfl) (ex_bs18 rfl (q22.e (j := 31) rfl) (by rw [hd3]; exact bsH20 _ _)) rfl q22.z (by decide) (fun _ => trivial) (q22.k fun _ q23 => ?_);clear q22
      have s3 : SlY yH d3 (some ⟨d2.heap.size, 0, none⟩) 1 1 [hd ((l.drop (lft n)).map lf)] := by rw [hd3]; exact sl1H _ _
      have b3 : Below d2.heap.size d2 d3 := by rw [hd3]; exact (Below.refl _ _).alloc (Nat.le_refl _) _
      have z3 := b3.size
      clear hd3
      have o3 := (o2.grow b3).low (B' := w.heap.size) (by omega)
      have hlp : (pa ((l.take (lft n)).map lf) p wh).length + 1 ≤ n := by have e1 := pa_len (lft n) ((l.take (lft n)).map lf) p wh (by rw [List.length_map, List.length_take]; omega) (by omega) (by omega); have e2 := sa_le (lft n) p wh (by omega) (by omega); omega
      obtain ⟨v4, d4, ha4, o4, g4, _⟩ := run_appY kH d3 42 w.heap.size (pa ((l.take (lft n)).map lf) p wh) v1 _ 1 1 [hd ((l.drop (lft n)).map lf)] s3 o3 (by omega) (by unfold maxLen; omega) (by show ((pa ((l.take (lft n)).map lf) p wh).length + 1) * 32 ≤ _; omega)
      refine vg_val 11 (v4) d4 rfl (by kernel_rfl) (want_none rfl) (ex_app18 rfl (q23.e (j := 27) rfl) (q23.e (j := 32) rfl) ha4) rfl q23.z (by decide) (fun _ => trivial) (q23.k fun _ q24 => ?_);clear q23
      have dd : Below w.heap.size w d3 := (((Below.refl _ _).trans (hy0.mono (by omega))).trans (b1.mono (by omega))).trans ((b2.mono (by omega)).trans (b3.mono (by omega)))
      have d5 := o3.grown dd g4 (by omega)
      refine vg_takeW 12 true (v4) rfl (by kernel_rfl) (by kernel_rfl) (by kernel_rfl) (by kernel_rfl) (want_none rfl) (fun hc v => ex_assign rfl (q24.e (j := 33) rfl)) rfl q24.z (by decide) (fun _ => trivial) (q24.k fun _ q25 => ?_);clear q24
      refine vg_done (by kernel_rfl) ?_
      go_wp2
      have e9 := pa_l (l.map lf) p wh (by rw [List.length_map]; omega) (by rw [List.length_map, hln]; omega)
      rw [List.length_map, hln, ← List.map_take, ← List.map_drop] at e9
      refine bodyPost_ret (results_tmp rfl _ _ _) rfl ?_
      rw [getD_of (q25.a 6 rfl)]
      exact ⟨_, rfl, by rw [e9]; exact o4, d5⟩
    · refine q11.t (.bool false) (ex_bin rfl (q11.e (j := 19) rfl) (q11.e (j := 20) rfl) (leF20 _ _ (by omega) _)) fun _ q12 => ?_;clear q11
      refine wpList_nil ?_
      go_upto_region 8 with fail
      refine wp_cond_false (q12.e (j := 21) rfl) ?_
      go_upto_region 8 with fail
      have hs1 := h
      refine vg_start (fun k => false) (fun _ => True) (by kernel_rfl) ?_
      have hy0 : Below w.heap.size w w.drew := (Below.refl _ _).drew
      have hzy0 : w.drew.heap.size = w.heap.size := rfl
      generalize w.drew = y0 at *
      have hS := hs1.later hy0
      have sT := hS.take (lft n) (by omega)
      have sF := hS.from20 (lft n) (by omega)
      refine vg_takeW 0 true (.int .i64 ((p : Nat) : Int)) rfl (by kernel_rfl) (by kernel_rfl) (by kernel_rfl) (by kernel_rfl) (want_none rfl) (fun hc v => ex_move rfl (q12.e (j := 0) rfl)) rfl q12.z (by decide) (fun _ => trivial) (q12.k fun _ q13 => ?_);clear q12
      refine vg_takeW 1 true (.int .i64 ((lft n : Nat) : Int)) rfl (by kernel_rfl) (by kernel_rfl) (by kernel_rfl) (by kernel_rfl) (want_none rfl) (fun hc v => ex_move rfl (q13.e (j := 7) rfl)) rfl q13.z (by decide) (fun _ => trivial) (q13.k fun _ q14 => ?_);clear q13
      refine vg_takeW 2 true (.int .i64 ((p - lft n : Nat) : Int)) rfl (by kernel_rfl) (by kernel_rfl) (by kernel_rfl) (by kernel_rfl) (want_none rfl) (fun hc v => ex_bin rfl (q14.e (j := 34) rfl) (q14.e (j := 35) rfl) (subP _ _ p (lft n) (by omega) (by omega) _)) rfl q14.z (by decide) (fun _ => trivial) (q14.k fun _ q15 => ?_);clear q14
      refine vg_takeW 3 true (.slice (some ⟨kq1, ko2, none⟩) n c) rfl (by kernel_rfl) (by kernel_rfl) (by kernel_rfl) (by kernel_rfl) (want_none rfl) (fun hc v => ex_move rfl (q15.e (j := 1) rfl)) rfl q15.z (by decide) (fun _ => trivial) (q15.k fun _ q16 => ?_);clear q15
      refine vg_takeW 4 true (.int .i64 ((lft n : Nat) : Int)) rfl (by kernel_rfl) (by kernel_rfl) (by kernel_rfl) (by kernel_rfl) (want_none rfl) (fun hc v => ex_move rfl (q16.e (j := 7) rfl)) rfl q16.z (by decide) (fun _ => trivial) (q16.k fun _ q17 => ?_);clear q16
      refine vg_takeW 5 true (.slice (some (if c = lft n then ⟨kq1, ko2, none⟩ else ⟨kq1, ko2 + (lft n) * 5, none⟩)) (n - lft n) (c - lft n)) rfl (by kernel_rfl) (by kernel_rfl) (by kernel_rfl) (by kernel_rfl) (want_none rfl) (fun hc v => ex_sl19 rfl (q17.e (j := 37) rfl) (congrArg some (q17.e (j := 38) rfl)) rfl rfl (slFromE20 kq1 ko2 n c (lft n) (by omega) (ckq1) _)) rfl q17.z (by decide) (fun _ => trivial) (q17.k fun _ q18 => ?_);clear q17
      refine vg_takeW 7 true (.slice (some ⟨kq1, ko2, none⟩) n c) rfl (by kernel_rfl) (by kernel_rfl) (by kernel_rfl) (by kernel_rfl) (want_none rfl) (fun hc v => ex_move rfl (q18.e (j := 1) rfl)) rfl q18.z (by decide) (fun _ => trivial) (q18.k fun _ q19 => ?_);clear q18
      refine vg_takeW 8 true (.int .i64 ((lft n : Nat) : Int)) rfl (by kernel_rfl) (by kernel_rfl) (by kernel_rfl) (by kernel_rfl) (want_none rfl) (fun hc v => ex_move rfl (q19.e (j := 7) rfl)) rfl q19.z (by decide) (fun _ => trivial) (q19.k fun _ q20 => ?_);clear q19
      refine vg_takeW 9 true (.slice (some ⟨kq1, ko2, none⟩) (lft n) c) rfl (by kernel_rfl) (by kernel_rfl) (by kernel_rfl) (by kernel_rfl) (want_none rfl) (fun hc v => ex_sl19 rfl (q20.e (j := 41) rfl) rfl (congrArg some (q20.e (j := 42) rfl)) rfl (slToE20 kq1 ko2 n c (lft n) (by omega) (ckq1) _)) rfl q20.z (by decide) (fun _ => trivial) (q20.k fun _ q21 => ?_);clear q20
      refine vg_call 6 rfl (by kernel_rfl) (want_none rfl) (ex_call rfl (by simp only [List.map_toArray, List.map_cons, List.map_nil, (q21.e (j := 36) rfl), (q21.e (j := 39) rfl), evc] <;> rfl) rfl) (ih _ _ _ _ (p - lft n) false y0 sF (by omega) (by omega) (by omega) (by omega) (fun x hx => hv x (List.mem_of_mem_drop hx))) rfl q21.z (by decide) ?_
      rintro e d1 ⟨v1, rfl, o1, b1⟩
      have z1 := b1.size
      have sO := sT.later b1
      refine ⟨_, rfl, trivial, q21.k fun _ q22 => ?_⟩;clear q21
      refine vg_call 10 rfl (by kernel_rfl) (want_none rfl) (ex_call rfl (by simp only [List.map_toArray, List.map_cons, List.map_nil, (q22.e (j := 43) rfl), evc] <;> rfl) rfl) (rhead20 _ _ _ _ d1 sO (by omega) (fun x hx => hv x (List.mem_of_mem_take hx))) rfl q22.z (by decide) ?_
      rintro e d2 ⟨rfl, b2⟩
      have z2 := b2.size
      have o2 := o1.grow b2
      refine ⟨_, rfl, trivial, q22.k fun _ q23 => ?_⟩;clear q22
      obtain ⟨d3, hd3⟩ : ∃ y, y = d2.alloc (.cells (hd ((l.take (lft n)).map lf)).cs.toArray 24) := ⟨_, rfl⟩
      refine vg_val 11 (.slice (some ⟨d2.heap.size, 0, none⟩) 1 1) d3 rfl (by kernel_rfl) (want_none rfl) (ex_bs18 rfl (q23.e (j := 44) rfl) (by rw [hd3]; exact bsH20 _ _)) rfl q23.z (by decide) (fun _ => trivial) (q23.k fun _ q24 => ?_);clear q23
      have s3 : SlY yH d3 (some ⟨d2.heap.size, 0, none⟩) 1 1 [hd ((l.take (lft n)).map lf)] := by rw [hd3]; exact sl1H _ _
      have b3 : Below d2.heap.size d2 d3 := by rw [hd3]; exact (Below.refl _ _).alloc (Nat.le_refl _) _
      have z3 := b3.size
      clear hd3
      have o3 := (o2.grow b3).low (B' := w.heap.size) (by omega)
      have hlp : (pa ((l.drop (lft n)).map lf) (p - lft n) false).length + 1 ≤ n := by have e1 := pa_len (n - lft n) ((l.drop (lft n)).map lf) (p - lft n) false (by rw [List.length_map, List.length_drop]; omega) (by omega) (by omega); have e2 := sa_le (n - lft n) (p - lft n) false (by omega) (by omega); omega
      obtain ⟨v4, d4, ha4, o4, g4, _⟩ := run_appY kH d3 42 w.heap.size (pa ((l.drop (lft n)).map lf) (p - lft n) false) v1 _ 1 1 [hd ((l.take (lft n)).map lf)] s3 o3 (by omega) (by unfold maxLen; omega) (by show ((pa ((l.drop (lft n)).map lf) (p - lft n) false).length + 1) * 32 ≤ _; omega)
      refine vg_val 12 (v4) d4 rfl (by kernel_rfl) (want_none rfl) (ex_app18 rfl (q24.e (j := 40) rfl) (q24.e (j := 45) rfl) ha4) rfl q24.z (by decide) (fun _ => trivial) (q24.k fun _ q25 => ?_);clear q24
      have dd : Below w.heap.size w d3 := (((Below.refl _ _).trans (hy0.mono (by omega))).trans (b1.mono (by omega))).trans ((b2.mono (by omega)).trans (b3.mono (by omega)))
      have d5 := o3.grown dd g4 (by omega)
      refine vg_takeW 13 true (v4) rfl (by kernel_rfl) (by kernel_rfl) (by kernel_rfl) (by kernel_rfl) (want_none rfl) (fun hc v => ex_assign rfl (q25.e (j := 46) rfl)) rfl q25.z (by decide) (fun _ => trivial) (q25.k fun _ q26 => ?_);clear q25
      refine vg_done (by kernel_rfl) ?_
      go_wp2
      have e9 := pa_r (l.map lf) p wh (by rw [List.length_map]; omega) (by rw [List.length_map, hln]; exact h1) (by rw [List.length_map, hln]; omega)
      rw [List.length_map, hln, ← List.map_take, ← List.map_drop] at e9
      refine bodyPost_ret (results_tmp rfl _ _ _) rfl ?_
      rw [getD_of (q26.a 6 rfl)]
      exact ⟨_, rfl, by rw [e9]; exact o4, d5⟩
theorem rsub20 (l : List En) (a : Option Addr) (n c p : Nat) (wh : Bool) (w : World) (h : SlY yE w a n c l) (hn : n ≤ 4398046511104) (hp1 : 1 ≤ p) (hp2 : p ≤ n) (hv : ∀ x ∈ l, x.o.v.size ≤ 140737488351232) :
    Calls Try.prog 53 #[.int .i64 (p : Int), .slice a n c, .bool wh] w fun e w' => ∃ v, e = .returned v ∧ OwnY yH w.heap.size w' v (pa (l.map lf) p wh) ∧ Below w.heap.size w w' := by
  have H : ∀ m, ∀ (l : List En) (a : Option Addr) (n c p : Nat) (wh : Bool) (w : World), SlY yE w a n c l → n < m → n ≤ 4398046511104 → 1 ≤ p → p ≤ n → (∀ x ∈ l, x.o.v.size ≤ 140737488351232) → Calls Try.prog 53 #[.int .i64 (p : Int), .slice a n c, .bool wh] w fun e w' => ∃ v, e = .returned v ∧ OwnY yH w.heap.size w' v (pa (l.map lf) p wh) ∧ Below w.heap.size w w' := by
    intro m
    induction m with
    | zero => intro l a n c p wh w _ h; omega
    | succ m ih => exact fun l a n c p wh w h hm hn h1 h2 hv => rsub_step m ih l a n c p wh w h (by omega) hn h1 h2 hv
  exact H (n + 1) l a n c p wh w h (by omega) hn hp1 hp2 hv
set_option maxHeartbeats 2000000 in
theorem rconsN20 (l : List En) (a : Option Addr) (n c p : Nat) (w : World) (h : SlY yE w a n c l) (hn : n ≤ 4398046511104) (hp2 : p ≤ n) (hv : ∀ x ∈ l, x.o.v.size ≤ 140737488351232) :
    Calls Try.prog 22 #[.slice a n c, .int .i64 (p : Int)] w fun e w' => ∃ v, e = .returned (.tuple #[v, .int .i64 (csR (l.map lf) (p : Int)).2]) ∧ OwnY yH w.heap.size w' v (csR (l.map lf) (p : Int)).1 ∧ Below w.heap.size w w' := by
  have hln := h.len
  go_enter Try.func22, Try.ntmps22
  go_upto_region 0 with fail
  refine wp_region_lit ?_
  refine vl_gen (fun T => Rp T 25 [(1, gw true (.int .i64 ((p : Nat) : Int))), (0, gw true (.slice a n c))]) (((Rp.nil rfl).cons rfl).cons rfl) (fun Z0 q0 => ?_)
  refine q0.t (.slice none 0 0) (ex_assign rfl rfl) fun _ q1 => ?_;clear q0
  refine q1.t (.int .i64 ((0 : Nat) : Int)) (ex_assign rfl rfl) fun _ q2 => ?_;clear q1
  refine wpList_nil ?_
  go_upto_region 1 with fail
  refine wp_region_lit ?_
  refine q2.t (.int .i64 ((p : Nat) : Int)) (ex_move rfl (q2.e (j := 1) rfl)) fun _ q3 => ?_;clear q2
  refine q3.t (.bool false) (ex_bin (Y := .int .i64 ((0 : Nat) : Int)) rfl (q3.e (j := 6) rfl) rfl (ltF20 _ _ (by omega) _)) fun _ q4 => ?_;clear q3
  refine q4.t (.bool false) (ex_move rfl (q4.e (j := 7) rfl)) fun _ q5 => ?_;clear q4
  refine vl ((true && (false == false))) (.int .i64 ((p : Nat) : Int)) (want_g rfl rfl (q5.a 8 rfl)) (fun hc => ex_move rfl (q5.e (j := 1) rfl)) rfl q5.z (by decide) (q5.k fun _ q6 => ?_);clear q5
  refine vl ((true && (false == false))) (.slice a n c) (want_g rfl rfl (q6.a 8 rfl)) (fun hc => ex_move rfl (q6.e (j := 0) rfl)) rfl q6.z (by decide) (q6.k fun _ q7 => ?_);clear q6
  refine vl ((true && (false == false))) (.int .i64 ((n : Nat) : Int)) (want_g rfl rfl (q7.a 8 rfl)) (fun hc => ex_lenG rfl rfl Try.underlying22 (ev (q7.a 10 rfl) hc)) rfl q7.z (by decide) (q7.k fun _ q8 => ?_);clear q7
  refine vl ((true && (false == false))) (.bool false) (want_g rfl rfl (q8.a 8 rfl)) (fun hc => ex_bin rfl (ev (q8.a 9 rfl) hc) (ev (q8.a 11 rfl) hc) (gtF20 _ _ (by omega) _)) rfl q8.z (by decide) (q8.k fun _ q9 => ?_);clear q8
  refine q9.t (.bool false) (ex_or (c := true) (b := false) (z := false) rfl (q9.a 8 rfl) (q9.a 12 rfl) rfl) fun _ q10 => ?_;clear q9
  refine wpList_nil ?_
  go_upto_region 3 with fail
  refine wp_cond_false (q10.e (j := 13) rfl) ?_
  go_upto_region 3 with fail
  refine wp_region_lit ?_
  refine q10.t (.int .i64 ((p : Nat) : Int)) (ex_move rfl (q10.e (j := 1) rfl)) fun _ q11 => ?_;clear q10
  by_cases h0 : p = 0
  · refine q11.t (.bool true) (ex_bin (Y := .int .i64 ((0 : Nat) : Int)) rfl (q11.e (j := 14) rfl) rfl (eqT20 _ _ (by omega) _)) fun _ q12 => ?_;clear q11
    refine q12.t (.bool true) (ex_move rfl (q12.e (j := 15) rfl)) fun _ q13 => ?_;clear q12
    refine vl ((true && (true == false))) (undef) (want_g rfl rfl (q13.a 16 rfl)) (fun hc => absurd hc (by decide)) rfl q13.z (by decide) (q13.k fun _ q14 => ?_);clear q13
    refine vl ((true && (true == false))) (undef) (want_g rfl rfl (q14.a 16 rfl)) (fun hc => absurd hc (by decide)) rfl q14.z (by decide) (q14.k fun _ q15 => ?_);clear q14
    refine vl ((true && (true == false))) (undef) (want_g rfl rfl (q15.a 16 rfl)) (fun hc => absurd hc (by decide)) rfl q15.z (by decide) (q15.k fun _ q16 => ?_);clear q15
    refine vl ((true && (true == false))) (.bool false) (want_g rfl rfl (q16.a 16 rfl)) (fun hc => absurd hc (by decide)) rfl q16.z (by decide) (q16.k fun _ q17 => ?_);clear q16
    refine q17.t (.bool true) (ex_or (c := true) (b := true) (z := false) rfl (q17.a 16 rfl) (q17.a 20 rfl) rfl) fun _ q18 => ?_;clear q17
    refine wpList_nil ?_
    go_upto_region 4 with fail
    refine wp_cond_true (q18.e (j := 21) rfl) ?_
    go_upto_region 4 with fail
    refine wp_region_lit ?_
    refine q18.t (.slice none 0 0) (ex_assign rfl rfl) fun _ q19 => ?_;clear q18
    refine q19.t (.int .i64 ((0 : Nat) : Int)) (ex_assign rfl rfl) fun _ q20 => ?_;clear q19
    refine wpList_nil ?_
    go_wp2
    have hi : csR (l.map lf) (p : Int) = ([], 0) := by
      rw [csR_ok (by rw [List.length_map, hln]; omega)]; unfold csP
      rw [if_pos (by omega)]
    exact bodyPost_ret (results2_18 rfl (q20.a 4 rfl) (q20.a 5 rfl)) rfl ⟨.slice none 0 0, by rw [hi]; rfl, by rw [hi]; exact OwnY.nil _ _ _, (Below.refl _ _)⟩
  · refine q11.t (.bool false) (ex_bin (Y := .int .i64 ((0 : Nat) : Int)) rfl (q11.e (j := 14) rfl) rfl (eqF20 _ _ (by omega) _)) fun _ q12 => ?_;clear q11
    refine q12.t (.bool false) (ex_move rfl (q12.e (j := 15) rfl)) fun _ q13 => ?_;clear q12
    refine vl ((true && (false == false))) (.int .i64 ((p : Nat) : Int)) (want_g rfl rfl (q13.a 16 rfl)) (fun hc => ex_move rfl (q13.e (j := 1) rfl)) rfl q13.z (by decide) (q13.k fun _ q14 => ?_);clear q13
    refine vl ((true && (false == false))) (.slice a n c) (want_g rfl rfl (q14.a 16 rfl)) (fun hc => ex_move rfl (q14.e (j := 0) rfl)) rfl q14.z (by decide) (q14.k fun _ q15 => ?_);clear q14
    refine vl ((true && (false == false))) (.int .i64 ((n : Nat) : Int)) (want_g rfl rfl (q15.a 16 rfl)) (fun hc => ex_lenG rfl rfl Try.underlying22 (ev (q15.a 18 rfl) hc)) rfl q15.z (by decide) (q15.k fun _ q16 => ?_);clear q15
    by_cases h1 : p = n
    · refine vl ((true && (false == false))) (.bool true) (want_g rfl rfl (q16.a 16 rfl)) (fun hc => ex_bin rfl (ev (q16.a 17 rfl) hc) (ev (q16.a 19 rfl) hc) (eqT20 _ _ (by omega) _)) rfl q16.z (by decide) (q16.k fun _ q17 => ?_);clear q16
      refine q17.t (.bool true) (ex_or (c := true) (b := false) (z := true) rfl (q17.a 16 rfl) (q17.a 20 rfl) rfl) fun _ q18 => ?_;clear q17
      refine wpList_nil ?_
      go_upto_region 4 with fail
      refine wp_cond_true (q18.e (j := 21) rfl) ?_
      go_upto_region 4 with fail
      refine wp_region_lit ?_
      refine q18.t (.slice none 0 0) (ex_assign rfl rfl) fun _ q19 => ?_;clear q18
      refine q19.t (.int .i64 ((0 : Nat) : Int)) (ex_assign rfl rfl) fun _ q20 => ?_;clear q19
      refine wpList_nil ?_
      go_wp2
      have hi : csR (l.map lf) (p : Int) = ([], 0) := by
        rw [csR_ok (by rw [List.length_map, hln]; omega)]; unfold csP
        rw [if_neg (by omega)]
        have := pa_e (l.map lf) true
        rw [List.length_map, hln, ← h1] at this
        rw [this]
        rfl
      exact bodyPost_ret (results2_18 rfl (q20.a 4 rfl) (q20.a 5 rfl)) rfl ⟨.slice none 0 0, by rw [hi]; rfl, by rw [hi]; exact OwnY.nil _ _ _, (Below.refl _ _)⟩
    · refine vl ((true && (false == false))) (.bool false) (want_g rfl rfl (q16.a 16 rfl)) (fun hc => ex_bin rfl (ev (q16.a 17 rfl) hc) (ev (q16.a 19 rfl) hc) (eqF20 _ _ (by omega) _)) rfl q16.z (by decide) (q16.k fun _ q17 => ?_);clear q16
      refine q17.t (.bool false) (ex_or (c := true) (b := false) (z := false) rfl (q17.a 16 rfl) (q17.a 20 rfl) rfl) fun _ q18 => ?_;clear q17
      refine wpList_nil ?_
      go_upto_region 5 with fail
      refine wp_cond_false (q18.e (j := 21) rfl) ?_
      go_upto_region 5 with fail
      refine wp_region_lit ?_
      refine q18.t (.int .i64 ((p : Nat) : Int)) (ex_move rfl (q18.e (j := 1) rfl)) fun _ q19 => ?_;clear q18
      refine q19.t (.slice a n c) (ex_move rfl (q19.e (j := 0) rfl)) fun _ q20 => ?_;clear q19
      refine vcallP (want_none rfl) (ex_call rfl (by simp only [List.map_toArray, List.map_cons, List.map_nil, (q20.e (j := 22) rfl), (q20.e (j := 23) rfl), evc] <;> rfl) rfl) (rsub20 l _ _ _ p true w h hn (by omega) (by omega) hv) rfl q20.z (by decide) ?_
      rintro e w1 ⟨v1, rfl, o1, bw1⟩
      refine ⟨_, rfl, q20.k fun _ q21 => ?_⟩;clear q20
      have zw1 := bw1.size
      have d2 : Below w.heap.size w w1 := bw1
      refine q21.t (v1) (ex_assign rfl (q21.e (j := 24) rfl)) fun _ q22 => ?_;clear q21
      refine q22.t (.int .i64 ((0 : Nat) : Int)) (ex_assign rfl rfl) fun _ q23 => ?_;clear q22
      refine wpList_nil ?_
      go_wp2
      have hi : csR (l.map lf) (p : Int) = (pa (l.map lf) p true, 0) := by
        rw [csR_ok (by rw [List.length_map, hln]; omega)]; unfold csP
        rw [if_neg (by omega)]
      exact bodyPost_ret (results2_18 rfl (q23.a 4 rfl) (q23.a 5 rfl)) rfl ⟨v1, by rw [hi]; rfl, by rw [hi]; exact (o1).low (by omega), d2⟩
set_option maxHeartbeats 2000000 in
theorem rconsB20 (l : List En) (a : Option Addr) (n c : Nat) (p : Int) (w : World) (h : SlY yE w a n c l) (hb : p < 0 ∨ (n : Int) < p) :
    Calls Try.prog 22 #[.slice a n c, .int .i64 p] w fun e w' => ∃ v, e = .returned (.tuple #[v, .int .i64 (csR (l.map lf) p).2]) ∧ OwnY yH w.heap.size w' v (csR (l.map lf) p).1 ∧ Below w.heap.size w w' := by
  have hln := h.len
  have hi : csR (l.map lf) p = ([], 200) := by unfold csR; rw [List.length_map, hln, if_pos hb]
  go_enter Try.func22, Try.ntmps22
  go_upto_region 0 with fail
  refine wp_region_lit ?_
  refine vl_gen (fun T => Rp T 25 [(1, gw true (.int .i64 (p : Int))), (0, gw true (.slice a n c))]) (((Rp.nil rfl).cons rfl).cons rfl) (fun Z0 q0 => ?_)
  refine q0.t (.slice none 0 0) (ex_assign rfl rfl) fun _ q1 => ?_;clear q0
  refine q1.t (.int .i64 ((0 : Nat) : Int)) (ex_assign rfl rfl) fun _ q2 => ?_;clear q1
  refine wpList_nil ?_
  go_upto_region 1 with fail
  refine wp_region_lit ?_
  refine q2.t (.int .i64 (p : Int)) (ex_move rfl (q2.e (j := 1) rfl)) fun _ q3 => ?_;clear q2
  by_cases h1 : p < 0
  · refine q3.t (.bool true) (ex_bin (Y := .int .i64 ((0 : Nat) : Int)) rfl (q3.e (j := 6) rfl) rfl (ltT20 _ _ (by omega) _)) fun _ q4 => ?_;clear q3
    refine q4.t (.bool true) (ex_move rfl (q4.e (j := 7) rfl)) fun _ q5 => ?_;clear q4
    refine vl ((true && (true == false))) (undef) (want_g rfl rfl (q5.a 8 rfl)) (fun hc => absurd hc (by decide)) rfl q5.z (by decide) (q5.k fun _ q6 => ?_);clear q5
    refine vl ((true && (true == false))) (undef) (want_g rfl rfl (q6.a 8 rfl)) (fun hc => absurd hc (by decide)) rfl q6.z (by decide) (q6.k fun _ q7 => ?_);clear q6
    refine vl ((true && (true == false))) (undef) (want_g rfl rfl (q7.a 8 rfl)) (fun hc => absurd hc (by decide)) rfl q7.z (by decide) (q7.k fun _ q8 => ?_);clear q7
    refine vl ((true && (true == false))) (.bool false) (want_g rfl rfl (q8.a 8 rfl)) (fun hc => absurd hc (by decide)) rfl q8.z (by decide) (q8.k fun _ q9 => ?_);clear q8
    refine q9.t (.bool true) (ex_or (c := true) (b := true) (z := false) rfl (q9.a 8 rfl) (q9.a 12 rfl) rfl) fun _ q10 => ?_;clear q9
    refine wpList_nil ?_
    go_upto_region 2 with fail
    refine wp_cond_true (q10.e (j := 13) rfl) ?_
    go_upto_region 2 with fail
    refine wp_region_lit ?_
    refine q10.t (.slice none 0 0) (ex_assign rfl rfl) fun _ q11 => ?_;clear q10
    refine q11.t (.int .i64 ((200 : Nat) : Int)) (ex_assign rfl rfl) fun _ q12 => ?_;clear q11
    refine wpList_nil ?_
    go_wp2
    exact bodyPost_ret (results2_18 rfl (q12.a 4 rfl) (q12.a 5 rfl)) rfl ⟨.slice none 0 0, by rw [hi]; rfl, by rw [hi]; exact OwnY.nil _ _ _, (Below.refl _ _)⟩
  · refine q3.t (.bool false) (ex_bin (Y := .int .i64 ((0 : Nat) : Int)) rfl (q3.e (j := 6) rfl) rfl (ltF20 _ _ (by omega) _)) fun _ q4 => ?_;clear q3
    refine q4.t (.bool false) (ex_move rfl (q4.e (j := 7) rfl)) fun _ q5 => ?_;clear q4
    refine vl ((true && (false == false))) (.int .i64 (p : Int)) (want_g rfl rfl (q5.a 8 rfl)) (fun hc => ex_move rfl (q5.e (j := 1) rfl)) rfl q5.z (by decide) (q5.k fun _ q6 => ?_);clear q5
    refine vl ((true && (false == false))) (.slice a n c) (want_g rfl rfl (q6.a 8 rfl)) (fun hc => ex_move rfl (q6.e (j := 0) rfl)) rfl q6.z (by decide) (q6.k fun _ q7 => ?_);clear q6
    refine vl ((true && (false == false))) (.int .i64 ((n : Nat) : Int)) (want_g rfl rfl (q7.a 8 rfl)) (fun hc => ex_lenG rfl rfl Try.underlying22 (ev (q7.a 10 rfl) hc)) rfl q7.z (by decide) (q7.k fun _ q8 => ?_);clear q7
    refine vl ((true && (false == false))) (.bool true) (want_g rfl rfl (q8.a 8 rfl)) (fun hc => ex_bin rfl (ev (q8.a 9 rfl) hc) (ev (q8.a 11 rfl) hc) (gtT20 _ _ (by omega) _)) rfl q8.z (by decide) (q8.k fun _ q9 => ?_);clear q8
    refine q9.t (.bool true) (ex_or (c := true) (b := false) (z := true) rfl (q9.a 8 rfl) (q9.a 12 rfl) rfl) fun _ q10 => ?_;clear q9
    refine wpList_nil ?_
    go_upto_region 2 with fail
    refine wp_cond_true (q10.e (j := 13) rfl) ?_
    go_upto_region 2 with fail
    refine wp_region_lit ?_
    refine q10.t (.slice none 0 0) (ex_assign rfl rfl) fun _ q11 => ?_;clear q10
    refine q11.t (.int .i64 ((200 : Nat) : Int)) (ex_assign rfl rfl) fun _ q12 => ?_;clear q11
    refine wpList_nil ?_
    go_wp2
    exact bodyPost_ret (results2_18 rfl (q12.a 4 rfl) (q12.a 5 rfl)) rfl ⟨.slice none 0 0, by rw [hi]; rfl, by rw [hi]; exact OwnY.nil _ _ _, (Below.refl _ _)⟩
theorem rcons20 (l : List En) (a : Option Addr) (n c : Nat) (p : Int) (w : World) (h : SlY yE w a n c l) (hn : n ≤ 4398046511104) (hv : ∀ x ∈ l, x.o.v.size ≤ 140737488351232) :
    Calls Try.prog 22 #[.slice a n c, .int .i64 p] w fun e w' => ∃ v, e = .returned (.tuple #[v, .int .i64 (csR (l.map lf) p).2]) ∧ OwnY yH w.heap.size w' v (csR (l.map lf) p).1 ∧ Below w.heap.size w w' := by
  by_cases hb : p < 0 ∨ (n : Int) < p
  · exact rconsB20 l a n c p w h hb
  · obtain ⟨k, rfl⟩ : ∃ k : Nat, p = (k : Int) := ⟨p.toNat, by omega⟩
    exact rconsN20 l a n c k w h hn (by omega) hv
end Go.Proofs.Ytfafhlahbhopaaa
