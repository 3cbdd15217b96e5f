import Derived.Test.YtomiifnhcojilaaRc5
namespace Go.Proofs.Ytomiifnhcojilaa
open Go.RowKit Go.Maps
open Classical
set_option linter.unusedVariables false
set_option linter.unusedSimpArgs false

theorem own20 {w : World} {a : Option Addr} {n c : Nat} {L : List Hs} {x : Hs} (h : SlY yH w a (n + 1) c (L ++ [x])) (hl : L.length = n) : SlY yH w a n c L := by
  have := h.take n (by omega)
  rwa [List.take_left' hl] at this
set_option maxRecDepth 100000 in
set_option maxHeartbeats 2000000 in
theorem ext_law20 (old : Hs) (m : Int) (g : Hs) (n : Int) (P : List Hs) (a : Option Addr) (k c : Nat) (w : World) (h : SlY yH w a k c P) (hk : k ≤ 4398046511000) (hn : n ≤ 9223372036854775807) :
    Calls Try.prog 6 #[old.val, .int .i64 m, g.val, .int .i64 n, .slice a k c] w fun e w' => e = .returned (.bool true) ∧ Below w.heap.size w w' := by
  have hln := h.len
  go_enter Try.func6, Try.ntmps6
  go_upto_region 0 with fail
  refine wp_region_lit ?_
  refine vl_gen (fun T => Rp T 35 [(4, gw true (.slice a k c)), (3, gw true (.int .i64 (n : Int))), (2, gw true (g.val)), (1, gw true (.int .i64 (m : Int))), (0, gw true (old.val))]) ((((((Rp.nil rfl).cons rfl).cons rfl).cons rfl).cons rfl).cons rfl) (fun Z0 q0 => ?_)
  obtain ⟨w1, hw1⟩ : ∃ y, y = w.alloc (.cells (old.cs).toArray 24) := ⟨_, rfl⟩
  refine vw (.pointer (some ⟨w.heap.size, 0, none⟩)) w1 (want_none rfl) (ex_box18 rfl (q0.e (j := 0) rfl) (by rw [hw1]; exact bxH20 _ _)) rfl q0.z (by decide) (q0.k fun _ q1 => ?_);clear q0
  have Bw1 : BB w1 w.heap.size 24 (old.cs) := by rw [hw1]; exact BB.new _ _ _
  have bw1 : Below w.heap.size w w1 := by rw [hw1]; exact (Below.refl _ _).alloc (Nat.le_refl _) _
  have zw1 : w1.heap.size = w.heap.size + 1 := by rw [hw1]; exact World.size_alloc _ _
  clear hw1
  have d2 : Below w.heap.size w w1 := bw1
  obtain ⟨w3, hw3⟩ : ∃ y, y = w1.alloc (.cells (g.cs).toArray 24) := ⟨_, rfl⟩
  refine vw (.pointer (some ⟨w1.heap.size, 0, none⟩)) w3 (want_none rfl) (ex_box18 rfl (q1.e (j := 2) rfl) (by rw [hw3]; exact bxH20 _ _)) rfl q1.z (by decide) (q1.k fun _ q2 => ?_);clear q1
  have Bw3 : BB w3 w1.heap.size 24 (g.cs) := by rw [hw3]; exact BB.new _ _ _
  have bw3 : Below w1.heap.size w1 w3 := by rw [hw3]; exact (Below.refl _ _).alloc (Nat.le_refl _) _
  have zw3 : w3.heap.size = w1.heap.size + 1 := by rw [hw3]; exact World.size_alloc _ _
  clear hw3
  have d4 : Below w.heap.size w w3 := d2.trans (bw3.mono d2.size)
  refine q2.t (.bool false) (ex_assign rfl rfl) fun _ q3 => ?_;clear q2
  refine wpList_nil ?_
  go_upto_region 1 with fail
  refine wp_region_lit ?_
  refine q3.t (.slice a k c) (ex_move rfl (q3.e (j := 4) rfl)) fun _ q4 => ?_;clear q3
  refine vcallP (want_none rfl) (ex_call rfl (by simp only [List.map_toArray, List.map_cons, List.map_nil, (q4.e (j := 12) rfl), evc] <;> rfl) rfl) (lent20 P a k c w3 (h.later d4) (by omega)) rfl q4.z (by decide) ?_
  rintro e w5 ⟨q, o, c3, rfl, sO, bw5⟩
  refine ⟨_, rfl, q4.k fun _ q5 => ?_⟩;clear q4
  have zw5 := bw5.size
  have d6 : Below w.heap.size w w5 := d4.trans (bw5.mono d4.size)
  refine q5.t (.slice (some ⟨q, o, none⟩) k c3) (ex_assign rfl (q5.e (j := 13) rfl)) fun _ q6 => ?_;clear q5
  refine wpList_nil ?_
  go_upto_region 2 with fail
  have B7 : BB w5 w.heap.size 24 (old.cs) := ((Bw1.later bw3).later bw5)
  have B8 : BB w5 w1.heap.size 24 (g.cs) := (Bw3.later bw5)
  refine vp_start 35 (fun T v => Rp T 35 [(1, gw true (.int .i64 (m : Int))), (3, gw true (.int .i64 (n : Int))), (4, gw true (.slice a k c)), (5, gw true (.pointer (some ⟨w.heap.size, 0, none⟩))), (7, gw true (.pointer (some ⟨w1.heap.size, 0, none⟩))), (11, gw true (.slice (some ⟨q, o, none⟩) k c3))] ∧ Upd (fun k => False) w5 v) (fun (i : Nat) (T : Array Value) (v : World) => match i with | 0 => T[14]? = some (gw true (old.val)) | 1 => T[15]? = some (gw true (.int .i64 (m : Int))) | 2 => T[16]? = some (gw true (g.val)) | 3 => T[17]? = some (gw true (.int .i64 (n : Int))) | 4 => T[18]? = some (gw true (.slice (some ⟨q, o, none⟩) k c3)) | 5 => T[19]? = some (gw true (.int .i64 (exR old m g n P : Int))) | 6 => T[20]? = some (gw true (old.val)) | 7 => T[21]? = some (gw true (.int .i64 (m : Int))) | 8 => T[22]? = some (gw true (g.val)) | 9 => T[23]? = some (gw true (.int .i64 (n : Int))) | 10 => T[24]? = some (gw true (.slice a k c)) | 11 => T[25]? = some (gw true (.int .i64 (exR old m g n P : Int))) | 12 => T[26]? = some (gw true (.bool true)) | 13 => T[27]? = some (gw true (.bool true)) | 14 => T[28]? = some (gw (true && (true == true)) (.slice (some ⟨q, o, none⟩) k c3)) | 15 => T[29]? = some (gw (true && (true == true)) (.slice a k c)) | 16 => T[30]? = some (gw (true && (true == true)) (.bool true)) | 17 => T[31]? = some (gw true (.bool true)) | 18 => T[32]? = some (gw true (.bool true)) | 19 => T[33]? = some (gw (true && (true == true)) (.bool true)) | 20 => T[34]? = some (gw true (.bool true)) | 21 => T[10]? = some (gw true (.bool true)) | _ => True) (fun (i : Nat) (T : Array Value) (v : World) => match i with | _ => True) (fun j T k => False) (fun i => match i with | 0 => [14] | 1 => [15] | 2 => [16] | 3 => [17] | 4 => [18] | 5 => [19] | 6 => [20] | 7 => [21] | 8 => [22] | 9 => [23] | 10 => [24] | 11 => [25] | 12 => [26] | 13 => [27] | 14 => [28] | 15 => [29] | 16 => [30] | 17 => [31] | 18 => [32] | 19 => [33] | 20 => [34] | 21 => [10] | _ => []) (fun _ => []) [1, 3, 4, 5, 7, 11] (fun i j => false) (fun i => false) (by kernel_rfl) (by kernel_rfl) q6.z ⟨(((((((Rp.nil q6.z).cons (q6.a 11 rfl)).cons (q6.a 7 rfl)).cons (q6.a 5 rfl)).cons (q6.a 4 rfl)).cons (q6.a 3 rfl)).cons (q6.a 1 rfl)), (Upd.refl _ _).drew20⟩ ?_ ?_ ?_ ?_ ?_ ?_
  · exact ⟨trivial, trivial, trivial, trivial, trivial, trivial, trivial, trivial, trivial, trivial, trivial, trivial, trivial, trivial, trivial, trivial, trivial, trivial, trivial, trivial, trivial, trivial, trivial⟩
  · intro j T T2 v v2 h _ hz hk hu
    exact ⟨h.1.ch hz hk, h.2.tr20 hu (fun k hk he => he.elim)⟩
  · refine ⟨?_, ?_, ?_, ?_, ?_, ?_, ?_, ?_, ?_, ?_, ?_, ?_, ?_, ?_, ?_, ?_, ?_, ?_, ?_, ?_, ?_, ?_, trivial⟩
    · exact fun j hj hu T T2 v v2 h hD hz hk hU => (hk 14 (List.mem_singleton.2 rfl)).trans h
    · exact fun j hj hu T T2 v v2 h hD hz hk hU => (hk 15 (List.mem_singleton.2 rfl)).trans h
    · exact fun j hj hu T T2 v v2 h hD hz hk hU => (hk 16 (List.mem_singleton.2 rfl)).trans h
    · exact fun j hj hu T T2 v v2 h hD hz hk hU => (hk 17 (List.mem_singleton.2 rfl)).trans h
    · exact fun j hj hu T T2 v v2 h hD hz hk hU => (hk 18 (List.mem_singleton.2 rfl)).trans h
    · exact fun j hj hu T T2 v v2 h hD hz hk hU => (hk 19 (List.mem_singleton.2 rfl)).trans h
    · exact fun j hj hu T T2 v v2 h hD hz hk hU => (hk 20 (List.mem_singleton.2 rfl)).trans h
    · exact fun j hj hu T T2 v v2 h hD hz hk hU => (hk 21 (List.mem_singleton.2 rfl)).trans h
    · exact fun j hj hu T T2 v v2 h hD hz hk hU => (hk 22 (List.mem_singleton.2 rfl)).trans h
    · exact fun j hj hu T T2 v v2 h hD hz hk hU => (hk 23 (List.mem_singleton.2 rfl)).trans h
    · exact fun j hj hu T T2 v v2 h hD hz hk hU => (hk 24 (List.mem_singleton.2 rfl)).trans h
    · exact fun j hj hu T T2 v v2 h hD hz hk hU => (hk 25 (List.mem_singleton.2 rfl)).trans h
    · exact fun j hj hu T T2 v v2 h hD hz hk hU => (hk 26 (List.mem_singleton.2 rfl)).trans h
    · exact fun j hj hu T T2 v v2 h hD hz hk hU => (hk 27 (List.mem_singleton.2 rfl)).trans h
    · exact fun j hj hu T T2 v v2 h hD hz hk hU => (hk 28 (List.mem_singleton.2 rfl)).trans h
    · exact fun j hj hu T T2 v v2 h hD hz hk hU => (hk 29 (List.mem_singleton.2 rfl)).trans h
    · exact fun j hj hu T T2 v v2 h hD hz hk hU => (hk 30 (List.mem_singleton.2 rfl)).trans h
    · exact fun j hj hu T T2 v v2 h hD hz hk hU => (hk 31 (List.mem_singleton.2 rfl)).trans h
    · exact fun j hj hu T T2 v v2 h hD hz hk hU => (hk 32 (List.mem_singleton.2 rfl)).trans h
    · exact fun j hj hu T T2 v v2 h hD hz hk hU => (hk 33 (List.mem_singleton.2 rfl)).trans h
    · exact fun j hj hu T T2 v v2 h hD hz hk hU => (hk 34 (List.mem_singleton.2 rfl)).trans h
    · exact fun j hj hu T T2 v v2 h hD hz hk hU => (hk 10 (List.mem_singleton.2 rfl)).trans h
  · refine ⟨fun _ _ _ _ _ _ _ _ _ _ _ => trivial, fun _ _ _ _ _ _ _ _ _ _ _ => trivial, fun _ _ _ _ _ _ _ _ _ _ _ => trivial, fun _ _ _ _ _ _ _ _ _ _ _ => trivial, fun _ _ _ _ _ _ _ _ _ _ _ => trivial, fun _ _ _ _ _ _ _ _ _ _ _ => trivial, fun _ _ _ _ _ _ _ _ _ _ _ => trivial, fun _ _ _ _ _ _ _ _ _ _ _ => trivial, fun _ _ _ _ _ _ _ _ _ _ _ => trivial, fun _ _ _ _ _ _ _ _ _ _ _ => trivial, fun _ _ _ _ _ _ _ _ _ _ _ => trivial, fun _ _ _ _ _ _ _ _ _ _ _ => trivial, fun _ _ _ _ _ _ _ _ _ _ _ => trivial, fun _ _ _ _ _ _ _ _ _ _ _ => trivial, fun _ _ _ _ _ _ _ _ _ _ _ => trivial, fun _ _ _ _ _ _ _ _ _ _ _ => trivial, fun _ _ _ _ _ _ _ _ _ _ _ => trivial, fun _ _ _ _ _ _ _ _ _ _ _ => trivial, fun _ _ _ _ _ _ _ _ _ _ _ => trivial, fun _ _ _ _ _ _ _ _ _ _ _ => trivial, fun _ _ _ _ _ _ _ _ _ _ _ => trivial, fun _ _ _ _ _ _ _ _ _ _ _ => trivial, trivial⟩
  · refine ⟨?_, ?_, ?_, ?_, ?_, ?_, ?_, ?_, ?_, ?_, ?_, ?_, ?_, ?_, ?_, ?_, ?_, ?_, ?_, ?_, ?_, ?_, trivial⟩
    · intro T df v hz hB hd hC
      have qb := hB.1
      have hU := hB.2
      exact ⟨true, want_none rfl, fun _ => .inl ⟨_, _, ex_ld rfl (qb.e (j := 5) rfl) (B7.upd hU (show ¬ False from id)).ldH, Upd.refl _ _, fun h => absurd h (by decide), fun T2 N => N.s 14 rfl⟩, fun h => absurd h (by decide), fun h => absurd h (by decide)⟩
    · intro T df v hz hB hd hC
      have qb := hB.1
      have hU := hB.2
      exact ⟨true, want_none rfl, fun _ => .inl ⟨_, _, ex_move rfl (qb.e (j := 1) rfl), Upd.refl _ _, fun h => absurd h (by decide), fun T2 N => N.s 15 rfl⟩, fun h => absurd h (by decide), fun h => absurd h (by decide)⟩
    · intro T df v hz hB hd hC
      have qb := hB.1
      have hU := hB.2
      exact ⟨true, want_none rfl, fun _ => .inl ⟨_, _, ex_ld rfl (qb.e (j := 7) rfl) (B8.upd hU (show ¬ False from id)).ldH, Upd.refl _ _, fun h => absurd h (by decide), fun T2 N => N.s 16 rfl⟩, fun h => absurd h (by decide), fun h => absurd h (by decide)⟩
    · intro T df v hz hB hd hC
      have qb := hB.1
      have hU := hB.2
      exact ⟨true, want_none rfl, fun _ => .inl ⟨_, _, ex_move rfl (qb.e (j := 3) rfl), Upd.refl _ _, fun h => absurd h (by decide), fun T2 N => N.s 17 rfl⟩, fun h => absurd h (by decide), fun h => absurd h (by decide)⟩
    · intro T df v hz hB hd hC
      have qb := hB.1
      have hU := hB.2
      exact ⟨true, want_none rfl, fun _ => .inl ⟨_, _, ex_move rfl (qb.e (j := 11) rfl), Upd.refl _ _, fun h => absurd h (by decide), fun T2 N => N.s 18 rfl⟩, fun h => absurd h (by decide), fun h => absurd h (by decide)⟩
    · intro T df v hz hB hd hC
      have qb := hB.1
      have hU := hB.2
      have HB : Below w5.heap.size w5 v := hU.below (Nat.le_refl _) (fun k hk => hk.elim)
      have p0 : T[14]? = some (gw true (old.val)) := hd 0 (by kernel_rfl) (by kernel_rfl)
      have p1 : T[15]? = some (gw true (.int .i64 (m : Int))) := hd 1 (by kernel_rfl) (by kernel_rfl)
      have p2 : T[16]? = some (gw true (g.val)) := hd 2 (by kernel_rfl) (by kernel_rfl)
      have p3 : T[17]? = some (gw true (.int .i64 (n : Int))) := hd 3 (by kernel_rfl) (by kernel_rfl)
      have p4 : T[18]? = some (gw true (.slice (some ⟨q, o, none⟩) k c3)) := hd 4 (by kernel_rfl) (by kernel_rfl)
      refine ⟨true, want_none rfl, fun hc => .inr (.inr ⟨_, _, _, ex_call rfl (by simp only [List.map_toArray, List.map_cons, List.map_nil, (ev p0 rfl), (ev p1 rfl), (ev p2 rfl), (ev p3 rfl), (ev p4 rfl), evc] <;> rfl) rfl, extends20 old m g n P _ k c3 v (own20 (sO.later HB) hln) (by omega), ?_⟩), fun _ => rfl, fun h => absurd h (by decide)⟩
      rintro e w9 ⟨rfl, b9⟩
      exact ⟨_, rfl, Upd.of_below b9, fun h => absurd h (by decide), fun T2 N => N.s 19 rfl⟩
    · intro T df v hz hB hd hC
      have qb := hB.1
      have hU := hB.2
      exact ⟨true, want_none rfl, fun _ => .inl ⟨_, _, ex_ld rfl (qb.e (j := 5) rfl) (B7.upd hU (show ¬ False from id)).ldH, Upd.refl _ _, fun h => absurd h (by decide), fun T2 N => N.s 20 rfl⟩, fun h => absurd h (by decide), fun h => absurd h (by decide)⟩
    · intro T df v hz hB hd hC
      have qb := hB.1
      have hU := hB.2
      exact ⟨true, want_none rfl, fun _ => .inl ⟨_, _, ex_move rfl (qb.e (j := 1) rfl), Upd.refl _ _, fun h => absurd h (by decide), fun T2 N => N.s 21 rfl⟩, fun h => absurd h (by decide), fun h => absurd h (by decide)⟩
    · intro T df v hz hB hd hC
      have qb := hB.1
      have hU := hB.2
      exact ⟨true, want_none rfl, fun _ => .inl ⟨_, _, ex_ld rfl (qb.e (j := 7) rfl) (B8.upd hU (show ¬ False from id)).ldH, Upd.refl _ _, fun h => absurd h (by decide), fun T2 N => N.s 22 rfl⟩, fun h => absurd h (by decide), fun h => absurd h (by decide)⟩
    · intro T df v hz hB hd hC
      have qb := hB.1
      have hU := hB.2
      exact ⟨true, want_none rfl, fun _ => .inl ⟨_, _, ex_move rfl (qb.e (j := 3) rfl), Upd.refl _ _, fun h => absurd h (by decide), fun T2 N => N.s 23 rfl⟩, fun h => absurd h (by decide), fun h => absurd h (by decide)⟩
    · intro T df v hz hB hd hC
      have qb := hB.1
      have hU := hB.2
      exact ⟨true, want_none rfl, fun _ => .inl ⟨_, _, ex_move rfl (qb.e (j := 4) rfl), Upd.refl _ _, fun h => absurd h (by decide), fun T2 N => N.s 24 rfl⟩, fun h => absurd h (by decide), fun h => absurd h (by decide)⟩
    · intro T df v hz hB hd hC
      have qb := hB.1
      have hU := hB.2
      have D : Below w.heap.size w v := d6.trans (hU.below d6.size (fun k hk => hk.elim))
      have p6 : T[20]? = some (gw true (old.val)) := hd 6 (by kernel_rfl) (by kernel_rfl)
      have p7 : T[21]? = some (gw true (.int .i64 (m : Int))) := hd 7 (by kernel_rfl) (by kernel_rfl)
      have p8 : T[22]? = some (gw true (g.val)) := hd 8 (by kernel_rfl) (by kernel_rfl)
      have p9 : T[23]? = some (gw true (.int .i64 (n : Int))) := hd 9 (by kernel_rfl) (by kernel_rfl)
      have p10 : T[24]? = some (gw true (.slice a k c)) := hd 10 (by kernel_rfl) (by kernel_rfl)
      refine ⟨true, want_none rfl, fun hc => .inr (.inr ⟨_, _, _, ex_call rfl (by simp only [List.map_toArray, List.map_cons, List.map_nil, (ev p6 rfl), (ev p7 rfl), (ev p8 rfl), (ev p9 rfl), (ev p10 rfl), evc] <;> rfl) rfl, rextends20 old m g n P a k c v (h.later D) (by omega), ?_⟩), fun _ => rfl, fun h => absurd h (by decide)⟩
      rintro e w9 ⟨rfl, b9⟩
      exact ⟨_, rfl, Upd.of_below b9, fun h => absurd h (by decide), fun T2 N => N.s 25 rfl⟩
    · intro T df v hz hB hd hC
      have qb := hB.1
      have hU := hB.2
      have p5 : T[19]? = some (gw true (.int .i64 (exR old m g n P : Int))) := hd 5 (by kernel_rfl) (by kernel_rfl)
      have p11 : T[25]? = some (gw true (.int .i64 (exR old m g n P : Int))) := hd 11 (by kernel_rfl) (by kernel_rfl)
      exact ⟨true, want_none rfl, fun _ => .inl ⟨_, _, ex_bin rfl (ev p5 rfl) (ev p11 rfl) (eqT20 _ _ (by omega) _), Upd.refl _ _, fun h => absurd h (by decide), fun T2 N => N.s 26 rfl⟩, fun h => absurd h (by decide), fun h => absurd h (by decide)⟩
    · intro T df v hz hB hd hC
      have qb := hB.1
      have hU := hB.2
      have p12 : T[26]? = some (gw true (.bool true)) := hd 12 (by kernel_rfl) (by kernel_rfl)
      exact ⟨true, want_none rfl, fun _ => .inl ⟨_, _, ex_move rfl (ev p12 rfl), Upd.refl _ _, fun h => absurd h (by decide), fun T2 N => N.s 27 rfl⟩, fun h => absurd h (by decide), fun h => absurd h (by decide)⟩
    · intro T df v hz hB hd hC
      have qb := hB.1
      have hU := hB.2
      have p13 : T[27]? = some (gw true (.bool true)) := hd 13 (by kernel_rfl) (by kernel_rfl)
      exact ⟨(true && (true == true)), want_g rfl rfl p13, fun hc => .inl ⟨_, _, ex_move rfl (qb.e (j := 11) rfl), Upd.refl _ _, fun h => absurd h (by decide), fun T2 N => by rw [hc]; exact N.s 28 rfl⟩, fun _ => rfl, fun hc T2 N => by rw [hc]; exact N.s 28 rfl⟩
    · intro T df v hz hB hd hC
      have qb := hB.1
      have hU := hB.2
      have p13 : T[27]? = some (gw true (.bool true)) := hd 13 (by kernel_rfl) (by kernel_rfl)
      exact ⟨(true && (true == true)), want_g rfl rfl p13, fun hc => .inl ⟨_, _, ex_move rfl (qb.e (j := 4) rfl), Upd.refl _ _, fun h => absurd h (by decide), fun T2 N => by rw [hc]; exact N.s 29 rfl⟩, fun _ => rfl, fun hc T2 N => by rw [hc]; exact N.s 29 rfl⟩
    · intro T df v hz hB hd hC
      have qb := hB.1
      have hU := hB.2
      have D : Below w.heap.size w v := d6.trans (hU.below d6.size (fun k hk => hk.elim))
      have HB : Below w5.heap.size w5 v := hU.below (Nat.le_refl _) (fun k hk => hk.elim)
      have p13 : T[27]? = some (gw true (.bool true)) := hd 13 (by kernel_rfl) (by kernel_rfl)
      have p14 : T[28]? = some (gw (true && (true == true)) (.slice (some ⟨q, o, none⟩) k c3)) := hd 14 (by kernel_rfl) (by kernel_rfl)
      have p15 : T[29]? = some (gw (true && (true == true)) (.slice a k c)) := hd 15 (by kernel_rfl) (by kernel_rfl)
      refine ⟨(true && (true == true)), want_g rfl rfl p13, fun hc => .inr (.inr ⟨_, _, _, ex_call rfl (by simp only [List.map_toArray, List.map_cons, List.map_nil, (ev p14 hc), (ev p15 hc), evc] <;> rfl) rfl, kept20 P q o c3 a k c v (sO.later HB) (h.later D) (by omega), ?_⟩), fun _ => rfl, fun hc T2 N => by rw [hc]; exact N.s 30 rfl⟩
      rintro e w9 ⟨rfl, b9⟩
      exact ⟨_, rfl, Upd.of_below b9, fun h => absurd h (by decide), fun T2 N => by rw [hc]; exact N.s 30 rfl⟩
    · intro T df v hz hB hd hC
      have qb := hB.1
      have hU := hB.2
      have p13 : T[27]? = some (gw true (.bool true)) := hd 13 (by kernel_rfl) (by kernel_rfl)
      have p16 : T[30]? = some (gw (true && (true == true)) (.bool true)) := hd 16 (by kernel_rfl) (by kernel_rfl)
      exact ⟨true, want_none rfl, fun _ => .inl ⟨_, _, ex_and (c := true) (b := true) (z := true) rfl p13 p16 rfl, Upd.refl _ _, fun h => absurd h (by decide), fun T2 N => N.s 31 rfl⟩, fun h => absurd h (by decide), fun h => absurd h (by decide)⟩
    · intro T df v hz hB hd hC
      have qb := hB.1
      have hU := hB.2
      have p17 : T[31]? = some (gw true (.bool true)) := hd 17 (by kernel_rfl) (by kernel_rfl)
      exact ⟨true, want_none rfl, fun _ => .inl ⟨_, _, ex_move rfl (ev p17 rfl), Upd.refl _ _, fun h => absurd h (by decide), fun T2 N => N.s 32 rfl⟩, fun h => absurd h (by decide), fun h => absurd h (by decide)⟩
    · intro T df v hz hB hd hC
      have qb := hB.1
      have hU := hB.2
      have p18 : T[32]? = some (gw true (.bool true)) := hd 18 (by kernel_rfl) (by kernel_rfl)
      refine ⟨(true && (true == true)), want_g rfl rfl p18, fun hc => .inr (.inr ⟨_, _, _, ex_call (args := #[]) rfl (by simp) rfl, works20 v, ?_⟩), fun _ => rfl, fun hc T2 N => by rw [hc]; exact N.s 33 rfl⟩
      rintro e w9 ⟨rfl, b9⟩
      exact ⟨_, rfl, Upd.of_below b9, fun h => absurd h (by decide), fun T2 N => by rw [hc]; exact N.s 33 rfl⟩
    · intro T df v hz hB hd hC
      have qb := hB.1
      have hU := hB.2
      have p18 : T[32]? = some (gw true (.bool true)) := hd 18 (by kernel_rfl) (by kernel_rfl)
      have p19 : T[33]? = some (gw (true && (true == true)) (.bool true)) := hd 19 (by kernel_rfl) (by kernel_rfl)
      exact ⟨true, want_none rfl, fun _ => .inl ⟨_, _, ex_and (c := true) (b := true) (z := true) rfl p18 p19 rfl, Upd.refl _ _, fun h => absurd h (by decide), fun T2 N => N.s 34 rfl⟩, fun h => absurd h (by decide), fun h => absurd h (by decide)⟩
    · intro T df v hz hB hd hC
      have qb := hB.1
      have hU := hB.2
      have p20 : T[34]? = some (gw true (.bool true)) := hd 20 (by kernel_rfl) (by kernel_rfl)
      exact ⟨true, want_none rfl, fun _ => .inl ⟨_, _, ex_assign rfl (ev p20 rfl), Upd.refl _ _, fun h => absurd h (by decide), fun T2 N => N.s 10 rfl⟩, fun h => absurd h (by decide), fun h => absurd h (by decide)⟩
  intro T v9 hz hB hp ha
  have qb := hB.1
  have U10 := hB.2
  clear hB hz
  clear q6
  have d11 : Below w.heap.size w v9 := d6.trans (U10.below (Nat.le_trans d6.size (Nat.le_refl _)) (fun k hk => hk.elim))
  have zv9 := U10.size
  have p21 : T[10]? = some (gw true (.bool true)) := hp 21 _ rfl (fun k => rfl)
  have q7 := (qb.cons p21)
  clear hp ha qb p21
  go_wp2
  refine bodyPost_ret (results_tmp rfl _ _ _) rfl ?_
  rw [getD_of (q7.a 10 rfl)]
  exact ⟨rfl, d11⟩
theorem ext_came20 (old : List Int) (ho : Hb old) (m : Int) (g : List Int) (hg : Hb g) (n : Int) (a : Option Addr) (k c : Nat) (W : World) (hn : (Lit.int .i64 n).wf = true) (h : CameH W a k c) :
    Calls Try.prog 6 #[.agg (old.map bV).toArray, .int .i64 m, .agg (g.map bV).toArray, .int .i64 n, .slice a k c] W fun e w' => e = .returned (.bool true) ∧ Below W.heap.size W w' := by
  obtain ⟨P, h1, h2⟩ := h
  have hn2 : n ≤ 9223372036854775807 := by
    simp [Lit.wf, IntKind.min, IntKind.max, IntKind.signed, IntKind.bits] at hn
    omega
  exact ext_law20 ho.h20 m hg.h20 n P a k c W h1 (by omega) hn2

end Go.Proofs.Ytomiifnhcojilaa
