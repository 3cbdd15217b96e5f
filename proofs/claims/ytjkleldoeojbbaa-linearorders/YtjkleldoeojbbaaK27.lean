import Derived.Test.YtjkleldoeojbbaaK25
namespace Go.Proofs.Ytjkleldoeojbbaa
open Go.RowKit Go.Maps
open Classical
set_option linter.unusedVariables false
set_option linter.unusedSimpArgs false

def hasI (O : List Int) (k : Int) : Bool := O.any fun x => decide (x = k)
theorem hasI_take {O : List Int} {k p : Int} {j : Nat} (h : O[j]? = some p) : hasI (O.take (j + 1)) k = (hasI (O.take j) k || decide (p = k)) := by
  unfold hasI
  rw [List.take_add_one, h]
  simp
theorem hasI_mono {O : List Int} {k : Int} {j : Nat} (h : hasI (O.take j) k = true) : hasI O k = true := by
  unfold hasI at *
  rw [List.any_eq_true] at *
  obtain ⟨x, hx, h2⟩ := h
  exact ⟨x, List.mem_of_mem_take hx, h2⟩
/-- Which of n places stand in a list. -/
def dO (n : Nat) (O : List Int) : List Bool := (List.range n).map fun (k : Nat) => hasI O (k : Int)
theorem dO_at {n k : Nat} (O : List Int) (h : k < n) : at9 (dO n O) k = hasI O (k : Int) := by simp [at9, dO, h]
/-- Where an order breaks, by the document. -/
def bkA (l : List Kl) : Nat → List Int → List Int → List Cl → Int
  | i, ahead, [], _ => if lckK l (dO l.length ahead) then (i : Int) else -1
  | i, ahead, p :: r, L => match l[p.toNat]? with
    | some x => if lateK l (dO l.length ahead) x || offK L x then (i : Int) else bkA l (i + 1) (ahead ++ [p]) r (dnK L x)
    | none => -1
theorem bkA_at {l : List Kl} {Ord : List Int} {j : Nat} {p : Int} {x : Kl} {L : List Cl} (h : Ord[j]? = some p) (hx : l[p.toNat]? = some x) : bkA l j (Ord.take j) (Ord.drop j) L = if lateK l (dO l.length (Ord.take j)) x || offK L x then (j : Int) else bkA l (j + 1) (Ord.take (j + 1)) (Ord.drop (j + 1)) (dnK L x) := by
  have hj := (List.getElem?_eq_some_iff.1 h).1
  have he := (List.getElem?_eq_some_iff.1 h).2
  rw [List.drop_eq_getElem_cons hj, he, bkA, hx, List.take_add_one, h]
  rfl
theorem bkA_end {l : List Kl} (Ord : List Int) (L : List Cl) : bkA l Ord.length (Ord.take Ord.length) (Ord.drop Ord.length) L = if lckK l (dO l.length Ord) then (Ord.length : Int) else -1 := by simp [bkA]
def brk (l : List Kl) (Ord : List Int) : Int := bkA l 0 [] Ord []
theorem slc_nil (w : World) : SlC w (.slice none 0 0) [] none 0 := ⟨rfl, Nat.le_refl _, by unfold maxLen; omega, fun _ => ⟨rfl, rfl⟩, fun x hx => by cases hx⟩
theorem geqC18 (x y : Operand) (a b : Int) (w : World) : (do eqGuard .geq 3 x y (.int .i64 a) (.int .i64 b); binOp .geq 3 (.int .i64 a) (.int .i64 b) : Sem Value).run Try.prog w = .ok (.bool (decide (b ≤ a))) w := geqC x y a b w
set_option maxRecDepth 100000 in
set_option maxHeartbeats 2000000 in
theorem has18 (O : List Int) (a2 : Option Addr) (c2 : Nat) (k : Int) (w : World) (h : SlY yN w a2 O.length c2 O) (hb : O.length ≤ 140737488355328) :
    Calls Try.prog 58 #[.slice a2 O.length c2, .int .i64 k] w fun e w' => e = .returned (.bool (hasI O k)) ∧ w' = w := by
  go_enter Try.func58, Try.ntmps58
  go_upto_region 0 with fail
  refine wp_region_lit ?_
  refine vl_gen (fun T => Rp T 18 [(1, gw true (.int .i64 k)), (0, gw true (.slice a2 O.length c2))]) (((Rp.nil rfl).cons rfl).cons rfl) (fun Z0 q0 => ?_)
  refine q0.t (.bool false) (ex_assign rfl rfl) fun _ q1 => ?_;clear q0
  refine wpList_nil ?_
  go_upto_region 1 with fail
  refine wp_region_lit ?_
  refine q1.t (.int .i64 ((0 : Nat) : Int)) (ex_assign rfl rfl) fun _ q2 => ?_;clear q1
  have q3 := ((((Rp.nil q2.z).cons (q2.a 0 rfl)).cons (q2.a 1 rfl)).cons (q2.a 5 rfl))
  clear q2
  refine wpList_nil ?_
  go_upto_region 2 with fail
  refine v_loop 5 O.length (fun j T wr => Rp T 18 [(5, gw true (.int .i64 (j : Int))), (1, gw true (.int .i64 k)), (0, gw true (.slice a2 O.length c2))] ∧ Hid (wr = w ∧ hasI (O.take j) k = false)) (fun j T w h => h.1.a 5 rfl) ⟨q3, rfl, by simp [hasI]⟩ ?_
  clear q3
  intro j T wr hj hh
  obtain ⟨q100, HJ⟩ := hh
  obtain ⟨rfl, hX⟩ := HJ.out
  clear HJ
  by_cases hit : j < O.length
  · obtain ⟨x, hx⟩ : ∃ x, O[j]? = some x := ⟨_, List.getElem?_eq_getElem hit⟩
    obtain ⟨q, o, hq, hql, hc⟩ := h.nm hx
    have hT := hasI_take (k := k) hx
    go_upto_region 2 with fail
    refine wp_region_lit ?_
    refine q100.t (.int .i64 (j : Int)) (ex_move rfl (q100.e (j := 5) rfl)) fun _ q101 => ?_;clear q100
    refine q101.t (.slice a2 O.length c2) (ex_move rfl (q101.e (j := 0) rfl)) fun _ q102 => ?_;clear q101
    refine q102.t (.int .i64 (O.length : Int)) (ex_lenN18 rfl rfl (q102.e (j := 7) rfl)) fun _ q103 => ?_;clear q102
    refine q103.t (.bool true) (ex_bin rfl (q103.e (j := 6) rfl) (q103.e (j := 8) rfl) (ltT _ _ hit _)) fun _ q104 => ?_;clear q103
    refine wpList_nil ?_
    go_upto_region 4 with fail
    refine wp_cond_true (q104.e (j := 9) rfl) ?_
    go_upto_region 4 with fail
    refine wp_region_lit ?_
    refine q104.t (.slice a2 O.length c2) (ex_move rfl (q104.e (j := 0) rfl)) fun _ q105 => ?_;clear q104
    refine q105.t (.int .i64 (j : Int)) (ex_move rfl (q105.e (j := 5) rfl)) fun _ q106 => ?_;clear q105
    refine q106.t (.pointer (some ⟨q, o + j, none⟩)) (ex_ix rfl (q106.e (j := 12) rfl) (q106.e (j := 13) rfl) (by rw [hq]; exact ixN18 q o O.length c2 j hit _)) fun _ q107 => ?_;clear q106
    refine q107.t (.int .i64 x) (ex_ld rfl (q107.e (j := 14) rfl) (ldI18 hc)) fun _ q108 => ?_;clear q107
    refine q108.t (.int .i64 k) (ex_move rfl (q108.e (j := 1) rfl)) fun _ q109 => ?_;clear q108
    refine q109.t (.bool (decide (x = k))) (ex_bin rfl (q109.e (j := 15) rfl) (q109.e (j := 16) rfl) (eqlC _ _ _ _ _)) fun _ q110 => ?_;clear q109
    have q111 := (((((Rp.nil q110.z).cons (q110.a 0 rfl)).cons (q110.a 1 rfl)).cons (q110.a 5 rfl)).cons (q110.a 17 rfl))
    clear q110
    refine wpList_nil ?_
    cases hd : decide (x = k) with
    | true =>
      have q111x := q111.a 17 rfl
      rw [hd] at q111x
      have hE : hasI O k = true := hasI_mono (j := j + 1) (by rw [hT, hd]; simp)
      go_upto_region 5 with fail
      refine wp_cond_true (ev q111x rfl) ?_
      go_upto_region 5 with fail
      refine wp_region_lit ?_
      refine q111.t (.bool true) (ex_assign rfl rfl) fun _ q112 => ?_;clear q111
      refine wpList_nil ?_
      go_wp2
      refine bodyPost_ret (results_tmp rfl _ _ _) rfl ⟨?_, rfl⟩
      rw [getD_of (q112.a 4 rfl)]
      exact retB18 hE.symm
    | false =>
      have q111x := q111.a 17 rfl
      rw [hd] at q111x
      go_upto_region 3 with fail
      refine wp_cond_false (ev q111x rfl) ?_
      go_upto_region 3 with fail
      refine wp_region_lit ?_
      refine q111.t (.int .i64 (j : Int)) (ex_move rfl (q111.e (j := 5) rfl)) fun _ q112 => ?_;clear q111
      refine q112.t (.int .i64 ((j + 1 : Nat) : Int)) (ex_bin rfl (q112.e (j := 10) rfl) rfl (add1C _ _ j (by omega) _)) fun _ q113 => ?_;clear q112
      refine q113.t (.int .i64 ((j + 1 : Nat) : Int)) (ex_assign rfl (q113.e (j := 11) rfl)) fun _ q114 => ?_;clear q113
      have q115 := ((((Rp.nil q114.z).cons (q114.a 0 rfl)).cons (q114.a 1 rfl)).cons (q114.a 5 rfl))
      clear q114
      refine wpList_nil ?_
      exact ⟨_, rfl, hit, q115, rfl, by rw [hT, hX, hd]; rfl⟩
  · obtain rfl : j = O.length := by omega
    rw [List.take_length] at hX
    go_upto_region 2 with fail
    refine wp_region_lit ?_
    refine q100.t (.int .i64 (O.length : Int)) (ex_move rfl (q100.e (j := 5) rfl)) fun _ q101 => ?_;clear q100
    refine q101.t (.slice a2 O.length c2) (ex_move rfl (q101.e (j := 0) rfl)) fun _ q102 => ?_;clear q101
    refine q102.t (.int .i64 (O.length : Int)) (ex_lenN18 rfl rfl (q102.e (j := 7) rfl)) fun _ q103 => ?_;clear q102
    refine q103.t (.bool false) (ex_bin rfl (q103.e (j := 6) rfl) (q103.e (j := 8) rfl) (ltF _ _ hit _)) fun _ q104 => ?_;clear q103
    refine wpList_nil ?_
    go_upto_region 6 with fail
    refine wp_cond_false (q104.e (j := 9) rfl) ?_
    go_upto_region 6 with fail
    refine wp_region_lit ?_
    refine q104.t (.bool false) (ex_assign rfl rfl) fun _ q105 => ?_;clear q104
    refine wpList_nil ?_
    go_wp2
    refine bodyPost_ret (results_tmp rfl _ _ _) rfl ⟨?_, rfl⟩
    rw [getD_of (q105.a 4 rfl)]
    exact retB18 hX.symm
theorem faK4o (q o : Nat) (w : World) : (Instr.fieldAt 66 (.pointer (some ⟨q, o, none⟩)) 4).run Try.prog w = .ok (.pointer (some ⟨q, o + 6, none⟩)) w := by go_simp
theorem lck_of {l : List Kl} {D : List Bool} {j : Nat} (hj : j ≤ l.length) (h : lcI l D j = true) : lckK l D = true := by
  unfold lcI at h
  unfold lckK lcI
  rw [List.any_eq_true] at h ⊢
  obtain ⟨i, hi, h⟩ := h
  exact ⟨i, List.mem_range.2 (by have := List.mem_range.1 hi; omega), h⟩
set_option maxRecDepth 100000 in
set_option maxHeartbeats 2000000 in
theorem breaks18 (l : List Kl) (a : Option Addr) (c : Nat) (Ord : List Int) (a2 : Option Addr) (c2 : Nat) (w : World) (h : SlY yK w a l.length c l) (h2 : SlY yN w a2 Ord.length c2 Ord) (hfx : ∀ x ∈ l, x.fits) (hpl : plc l.length Ord) (hb : l.length ≤ 140737488355328) (hb2 : Ord.length ≤ 140737488355328) :
    Calls Try.prog 89 #[.slice a l.length c, .slice a2 Ord.length c2] w fun e w' => e = .returned (.int .i64 (brk l Ord)) ∧ Below w.heap.size w w' := by
  go_enter Try.func89, Try.ntmps89
  go_upto_region 0 with fail
  refine wp_region_lit ?_
  refine vl_gen (fun T => Rp T 84 [(1, gw true (.slice a2 Ord.length c2)), (0, gw true (.slice a l.length c))]) (((Rp.nil rfl).cons rfl).cons rfl) (fun Z0 q0 => ?_)
  refine q0.t (.int .i64 0) (ex_assign rfl rfl) fun _ q1 => ?_;clear q0
  refine wpList_nil ?_
  go_upto_region 1 with fail
  refine wp_region_lit ?_
  refine q1.t (.slice none 0 0) (ex_assign rfl rfl) fun _ q2 => ?_;clear q1
  refine wpList_nil ?_
  go_upto_region 2 with fail
  refine wp_region_lit ?_
  refine q2.t (.int .i64 ((0 : Nat) : Int)) (ex_assign rfl rfl) fun _ q3 => ?_;clear q2
  have q4 := (((((Rp.nil q3.z).cons (q3.a 0 rfl)).cons (q3.a 1 rfl)).cons (q3.a 5 rfl)).cons (q3.a 6 rfl))
  clear q3
  refine wpList_nil ?_
  go_upto_region 3 with fail
  refine v_loop 6 Ord.length (fun i T wr => ∃ (L : List Cl) (ac : Option Addr) (cc : Nat), Rp T 84 [(6, gw true (.int .i64 (i : Int))), (5, gw true (.slice ac L.length cc)), (1, gw true (.slice a2 Ord.length c2)), (0, gw true (.slice a l.length c))] ∧ Hid (Below w.heap.size w wr ∧ SlC wr (.slice ac L.length cc) L ac cc ∧ Ok L ∧ brk l Ord = bkA l i (Ord.take i) (Ord.drop i) L)) (fun j T w h => by obtain ⟨_, _, _, h, _⟩ := h; exact h.a 6 rfl) ⟨[], none, 0, q4, Below.refl _ _, slc_nil _, Ok.nil, rfl⟩ ?_
  clear q4
  intro i T wr hi hh
  obtain ⟨L, ac, cc, q100, HJ⟩ := hh
  obtain ⟨br, hC, hok, hR⟩ := HJ.out
  clear HJ
  have zr := br.size
  by_cases hit : i < Ord.length
  · obtain ⟨pp, hp⟩ : ∃ p, Ord[i]? = some p := ⟨_, List.getElem?_eq_getElem hit⟩
    have hpp := hpl pp (List.mem_of_getElem? hp)
    obtain ⟨pn, rfl⟩ : ∃ pn : Nat, pp = (pn : Int) := ⟨pp.toNat, by omega⟩
    have hpn : pn < l.length := by omega
    obtain ⟨x, hx⟩ : ∃ x, l[pn]? = some x := ⟨_, List.getElem?_eq_getElem hpn⟩
    have fx := hfx x (List.mem_of_getElem? hx)
    have hRx := bkA_at (L := L) hp (by rw [Int.toNat_natCast]; exact hx)
    obtain ⟨q2, o2, hq2, hq2l, hc2⟩ := (h2.on br (Nat.le_refl _)).nm hp
    obtain ⟨qa, oa, hqa, hqal, hla⟩ := (h.on br (Nat.le_refl _)).place (by rintro rfl; simp at hx)
    go_upto_region 3 with fail
    refine wp_region_lit ?_
    refine q100.t (.int .i64 (i : Int)) (ex_move rfl (q100.e (j := 6) rfl)) fun _ q101 => ?_;clear q100
    refine q101.t (.slice a2 Ord.length c2) (ex_move rfl (q101.e (j := 1) rfl)) fun _ q102 => ?_;clear q101
    refine q102.t (.int .i64 (Ord.length : Int)) (ex_lenN18 rfl rfl (q102.e (j := 13) rfl)) fun _ q103 => ?_;clear q102
    refine q103.t (.bool true) (ex_bin rfl (q103.e (j := 12) rfl) (q103.e (j := 14) rfl) (ltT _ _ hit _)) fun _ q104 => ?_;clear q103
    refine wpList_nil ?_
    go_upto_region 5 with fail
    refine wp_cond_true (q104.e (j := 15) rfl) ?_
    go_upto_region 5 with fail
    refine wp_region_lit ?_
    refine q104.t (.slice a l.length c) (ex_move rfl (q104.e (j := 0) rfl)) fun _ q105 => ?_;clear q104
    refine q105.t (.slice a2 Ord.length c2) (ex_move rfl (q105.e (j := 1) rfl)) fun _ q106 => ?_;clear q105
    refine q106.t (.int .i64 (i : Int)) (ex_move rfl (q106.e (j := 6) rfl)) fun _ q107 => ?_;clear q106
    refine q107.t (.pointer (some ⟨q2, o2 + i, none⟩)) (ex_ix rfl (q107.e (j := 19) rfl) (q107.e (j := 20) rfl) (by rw [hq2]; exact ixN18 q2 o2 Ord.length c2 i hit _)) fun _ q108 => ?_;clear q107
    refine q108.t (.int .i64 (pn : Int)) (ex_ld rfl (q108.e (j := 21) rfl) (ldI18 hc2)) fun _ q109 => ?_;clear q108
    refine q109.t (.pointer (some ⟨qa, oa + pn * 10, none⟩)) (ex_ix rfl (q109.e (j := 18) rfl) (q109.e (j := 22) rfl) (by rw [hqa]; exact ixK qa oa l.length c pn hpn _)) fun _ q110 => ?_;clear q109
    refine q110.t (x.val) (ex_ld rfl (q110.e (j := 23) rfl) (ldEl hla hx)) fun _ q111 => ?_;clear q110
    obtain ⟨r1, hr1⟩ : ∃ y, y = wr.alloc (.cells zK.cs.toArray 66) := ⟨_, rfl⟩
    refine vw (.pointer (some ⟨wr.heap.size, 0, none⟩)) r1 (want_none rfl) (ex_al rfl (by rw [hr1]; exact alK _)) rfl q111.z (by decide) (q111.k fun _ q112 => ?_);clear q111
    have Bz : BB r1 wr.heap.size 66 zK.cs := by rw [hr1]; exact BB.new _ _ _
    have hr1b : Below wr.heap.size wr r1 := by rw [hr1]; exact (Below.refl _ _).alloc (Nat.le_refl _) _
    clear hr1
    obtain ⟨r2, hr2⟩ : ∃ y, y = r1.setCells wr.heap.size 0 x.cs := ⟨_, rfl⟩
    refine vs r2 (want_none rfl) (ex_st rfl (q112.e (j := 7) rfl) (q112.e (j := 24) rfl) (by rw [hr2]; exact Bz.stK)) rfl ?_
    have B7 : BB r2 wr.heap.size 66 x.cs := by rw [hr2]; exact Bz.whole _ rfl
    have hr2b : Below wr.heap.size wr r2 := by rw [hr2]; exact hr1b.trans (bel_ge (upd18 _ _ _ _) hr1b.size (Nat.le_refl _))
    clear hr2 Bz hr1b
    have y2 := hr2b.size
    have q113 := ((((((Rp.nil q112.z).cons (q112.a 0 rfl)).cons (q112.a 1 rfl)).cons (q112.a 5 rfl)).cons (q112.a 6 rfl)).cons (q112.a 7 rfl))
    clear q112
    refine wpList_nil ?_
    go_upto_region 6 with fail
    refine wp_region_lit ?_
    refine q113.t (.int .i64 ((0 : Nat) : Int)) (ex_assign rfl rfl) fun _ q114 => ?_;clear q113
    have q115 := (((((((Rp.nil q114.z).cons (q114.a 0 rfl)).cons (q114.a 1 rfl)).cons (q114.a 5 rfl)).cons (q114.a 6 rfl)).cons (q114.a 7 rfl)).cons (q114.a 8 rfl))
    clear q114
    refine wpList_nil ?_
    go_upto_region 7 with fail
    refine v_loop 8 l.length (fun j T u => Rp T 84 [(8, gw true (.int .i64 (j : Int))), (7, gw true (.pointer (some ⟨wr.heap.size, 0, none⟩))), (6, gw true (.int .i64 (i : Int))), (5, gw true (.slice ac L.length cc)), (1, gw true (.slice a2 Ord.length c2)), (0, gw true (.slice a l.length c))] ∧ Hid (Below r2.heap.size r2 u ∧ laI l (dO l.length (Ord.take i)) x j = false)) (fun j T w h => h.1.a 8 rfl) ⟨q115, Below.refl _ _, by simp [laI]⟩ ?_
    clear q115
    intro j T2 u hj hh2
    obtain ⟨q200, HJ2⟩ := hh2
    obtain ⟨hub, hla2⟩ := HJ2.out
    clear HJ2
    have y4 := hub.size
    have hub2 : Below wr.heap.size wr u := hr2b.trans (hub.mono (by omega))
    have B7u := B7.later hub
    have bru : Below w.heap.size w u := br.trans (hub2.mono zr)
    by_cases hjt : j < l.length
    · obtain ⟨y, hy⟩ : ∃ y, l[j]? = some y := ⟨_, List.getElem?_eq_getElem hjt⟩
      obtain ⟨qb, ob, hqb, hqbl, hlb⟩ := (h.on bru (Nat.le_refl _)).place (by rintro rfl; simp at hx)
      have hls := laI_succ (D := dO l.length (Ord.take i)) (x := x) hy
      rw [dO_at _ hjt] at hls
      have htk := (h2.on bru (Nat.le_refl _)).take i (by omega)
      have htl : (Ord.take i).length = i := by rw [List.length_take]; omega
      go_upto_region 7 with fail
      refine wp_region_lit ?_
      refine q200.t (.int .i64 (j : Int)) (ex_move rfl (q200.e (j := 8) rfl)) fun _ q201 => ?_;clear q200
      refine q201.t (.slice a l.length c) (ex_move rfl (q201.e (j := 0) rfl)) fun _ q202 => ?_;clear q201
      refine q202.t (.int .i64 (l.length : Int)) (ex_len18 rfl rfl (q202.e (j := 26) rfl)) fun _ q203 => ?_;clear q202
      refine q203.t (.bool true) (ex_bin rfl (q203.e (j := 25) rfl) (q203.e (j := 27) rfl) (ltT _ _ hjt _)) fun _ q204 => ?_;clear q203
      refine wpList_nil ?_
      go_upto_region 9 with fail
      refine wp_cond_true (q204.e (j := 28) rfl) ?_
      go_upto_region 9 with fail
      refine vq_start (C := fun v => Below u.heap.size u v) (by kernel_rfl) (by kernel_rfl) (Below.refl _ _).drew ?_
      refine q204.q (.slice a l.length c) (fun v hv => ex_move rfl (q204.e (j := 0) rfl)) fun _ q205 => ?_;clear q204
      refine q205.q (.int .i64 (j : Int)) (fun v hv => ex_move rfl (q205.e (j := 8) rfl)) fun _ q206 => ?_;clear q205
      refine q206.q (.pointer (some ⟨qb, ob + j * 10, none⟩)) (fun v hv => ex_ix rfl (q206.e (j := 31) rfl) (q206.e (j := 32) rfl) (by rw [hqb]; exact ixK qb ob l.length c j hjt _)) fun _ q207 => ?_;clear q206
      refine q207.q (y.val) (fun v hv => ex_ld rfl (q207.e (j := 33) rfl) (ldEl (hlb.upd (S := fun _ => False) (Upd.of_below hv) hqbl id) hy)) fun _ q208 => ?_;clear q207
      refine q208.q (x.val) (fun v hv => ex_ld rfl (q208.e (j := 7) rfl) (B7u.later hv).ldK) fun _ q209 => ?_;clear q208
      refine vq_call18 (true) (.bool (prcK y x)) (want_none rfl) (fun hc v hv => ex_call rfl (by simp only [List.map_toArray, List.map_cons, List.map_nil, (q209.e (j := 34) rfl), (q209.e (j := 35) rfl), evc] <;> rfl) rfl) (fun hc v hv => bel18 hv (refPrec18 y x v) hv.size) rfl q209.z (by decide) (q209.k fun _ q210 => ?_);clear q209
      refine q210.q (.bool (prcK y x)) (fun v hv => ex_move rfl (q210.e (j := 36) rfl)) fun _ q211 => ?_;clear q210
      refine vq (true && (prcK y x == true)) (.slice a2 Ord.length c2) (want_g rfl rfl (q211.a 37 rfl)) (fun hc v hv => ex_move rfl (q211.e (j := 1) rfl)) rfl q211.z (by decide) (q211.k fun _ q212 => ?_);clear q211
      refine vq (true && (prcK y x == true)) (.int .i64 (i : Int)) (want_g rfl rfl (q212.a 37 rfl)) (fun hc v hv => ex_move rfl (q212.e (j := 6) rfl)) rfl q212.z (by decide) (q212.k fun _ q213 => ?_);clear q212
      refine vq (true && (prcK y x == true)) (.slice a2 (Ord.take i).length c2) (want_g rfl rfl (q213.a 37 rfl)) (fun hc v hv => ex_slT18 rfl (ev (q213.a 38 rfl) hc) (ev (q213.a 39 rfl) hc) (by rw [hq2, htl]; exact slToN q2 o2 Ord.length c2 i (by omega) (by have := h2.cap; omega) _)) rfl q213.z (by decide) (q213.k fun _ q214 => ?_);clear q213
      refine vq (true && (prcK y x == true)) (.int .i64 (j : Int)) (want_g rfl rfl (q214.a 37 rfl)) (fun hc v hv => ex_move rfl (q214.e (j := 8) rfl)) rfl q214.z (by decide) (q214.k fun _ q215 => ?_);clear q214
      refine vq_call18 (true && (prcK y x == true)) (.bool (hasI (Ord.take i) (j : Int))) (want_g rfl rfl (q215.a 37 rfl)) (fun hc v hv => ex_call rfl (by simp only [List.map_toArray, List.map_cons, List.map_nil, (ev (q215.a 40 rfl) hc), (ev (q215.a 41 rfl) hc), evc] <;> rfl) rfl) (fun hc v hv => (has18 (Ord.take i) a2 c2 (j : Int) v (by rw [htl]; exact htk.later hv) (by omega)).mono fun e w9 h9 => ⟨h9.1, h9.2 ▸ hv⟩) rfl q215.z (by decide) (q215.k fun _ q216 => ?_);clear q215
      refine vq (true && (prcK y x == true)) (.bool (!hasI (Ord.take i) (j : Int))) (want_g rfl rfl (q216.a 37 rfl)) (fun hc v hv => ex_not rfl (ev (q216.a 42 rfl) hc)) rfl q216.z (by decide) (q216.k fun _ q217 => ?_);clear q216
      refine q217.q (.bool (prcK y x && !hasI (Ord.take i) (j : Int))) (fun v hv => ex_and rfl (q217.a 37 rfl) (q217.a 43 rfl) rfl) fun _ q218 => ?_;clear q217
      refine vq_nil (fun u1 hu1 => ?_)
      have y5 := hu1.size
      have q219 := ((((((((Rp.nil q218.z).cons (q218.a 0 rfl)).cons (q218.a 1 rfl)).cons (q218.a 5 rfl)).cons (q218.a 6 rfl)).cons (q218.a 7 rfl)).cons (q218.a 8 rfl)).cons (q218.a 44 rfl))
      clear q218
      cases hD : (prcK y x && !hasI (Ord.take i) (j : Int)) with
      | true =>
        have q219x := q219.a 44 rfl
        rw [hD] at q219x
        have hlt : lateK l (dO l.length (Ord.take i)) x = true := late_of (j := j + 1) (by omega) (by rw [hls, Bool.and_comm (!_), hD]; simp)
        have hEE : brk l Ord = (i : Int) := by rw [hR, hRx, hlt]; simp
        go_upto_region 10 with fail
        refine wp_cond_true (ev q219x rfl) ?_
        go_upto_region 10 with fail
        refine wp_region_lit ?_
        refine q219.t (.int .i64 (i : Int)) (ex_move rfl (q219.e (j := 6) rfl)) fun _ q220 => ?_;clear q219
        refine q220.t (.int .i64 (i : Int)) (ex_assign rfl (q220.e (j := 45) rfl)) fun _ q221 => ?_;clear q220
        refine wpList_nil ?_
        go_wp2
        refine bodyPost_ret (results_tmp rfl _ _ _) rfl ⟨?_, bru.trans (hu1.mono (by omega))⟩
        rw [getD_of (q221.a 4 rfl)]
        exact ret18 hEE.symm
      | false =>
        have q219x := q219.a 44 rfl
        rw [hD] at q219x
        go_upto_region 8 with fail
        refine wp_cond_false (ev q219x rfl) ?_
        go_upto_region 8 with fail
        refine wp_region_lit ?_
        refine q219.t (.int .i64 (j : Int)) (ex_move rfl (q219.e (j := 8) rfl)) fun _ q220 => ?_;clear q219
        refine q220.t (.int .i64 ((j + 1 : Nat) : Int)) (ex_bin rfl (q220.e (j := 29) rfl) rfl (add1C _ _ j (by omega) _)) fun _ q221 => ?_;clear q220
        refine q221.t (.int .i64 ((j + 1 : Nat) : Int)) (ex_assign rfl (q221.e (j := 30) rfl)) fun _ q222 => ?_;clear q221
        have q223 := (((((((Rp.nil q222.z).cons (q222.a 0 rfl)).cons (q222.a 1 rfl)).cons (q222.a 5 rfl)).cons (q222.a 6 rfl)).cons (q222.a 7 rfl)).cons (q222.a 8 rfl))
        clear q222
        refine wpList_nil ?_
        exact ⟨_, rfl, hjt, q223, hub.trans (hu1.mono y4), by rw [hls, hla2, Bool.and_comm (!_), hD]; rfl⟩
    · obtain rfl : j = l.length := by omega
      have hlt : lateK l (dO l.length (Ord.take i)) x = false := hla2
      go_upto_region 7 with fail
      refine wp_region_lit ?_
      refine q200.t (.int .i64 (l.length : Int)) (ex_move rfl (q200.e (j := 8) rfl)) fun _ q201 => ?_;clear q200
      refine q201.t (.slice a l.length c) (ex_move rfl (q201.e (j := 0) rfl)) fun _ q202 => ?_;clear q201
      refine q202.t (.int .i64 (l.length : Int)) (ex_len18 rfl rfl (q202.e (j := 26) rfl)) fun _ q203 => ?_;clear q202
      refine q203.t (.bool false) (ex_bin rfl (q203.e (j := 25) rfl) (q203.e (j := 27) rfl) (ltF _ _ hjt _)) fun _ q204 => ?_;clear q203
      refine wpList_nil ?_
      go_upto_region 11 with fail
      refine wp_cond_false (q204.e (j := 28) rfl) ?_
      go_upto_region 11 with fail
      refine wp_region_lit ?_
      refine q204.t (.slice ac L.length cc) (ex_move rfl (q204.e (j := 5) rfl)) fun _ q205 => ?_;clear q204
      refine q205.t (.pointer (some ⟨wr.heap.size, 2, none⟩)) (ex_fa rfl (q205.e (j := 7) rfl) (faK2 _ _)) fun _ q206 => ?_;clear q205
      refine q206.t (.agg #[.int .i64 x.o.k, .int .i64 x.o.s, .string x.o.v]) (ex_ld rfl (q206.e (j := 48) rfl) B7u.ldO) fun _ q207 => ?_;clear q206
      refine vcallP (want_none rfl) (ex_call rfl (by simp only [List.map_toArray, List.map_cons, List.map_nil, (q207.e (j := 47) rfl), (q207.e (j := 49) rfl), evc] <;> rfl) rfl) (refdo_any L ac cc x.o.k x.o.s x.o.v fx.ow u (hC.later hub2) hok) rfl q207.z (by decide) ?_
      rintro e u1 ⟨ad, cd, rfl, hC1, hb1, _⟩
      refine ⟨_, rfl, q207.k fun _ q208 => ?_⟩;clear q207
      have y5 := hb1.size
      have B7v := B7u.later hb1
      refine q208.t (.tuple #[.slice ad (dn L x.o.k x.o.s x.o.v).length cd, rV (wd L x.o.k x.o.s x.o.v)]) (ex_move rfl (q208.e (j := 50) rfl)) fun _ q209 => ?_;clear q208
      refine q209.t (.slice ad (dnK L x).length cd) (ex_ext18 rfl (q209.e (j := 46) rfl) rfl) fun _ q210 => ?_;clear q209
      refine q210.t (.agg (rsC (wd L x.o.k x.o.s x.o.v)).toArray) (ex_ext18 rfl (q210.e (j := 46) rfl) rfl) fun _ q211 => ?_;clear q210
      obtain ⟨u2, hu2⟩ : ∃ y, y = u1.alloc (.cells (rsC (0, 0, ByteArray.empty)).toArray 64) := ⟨_, rfl⟩
      refine vw (.pointer (some ⟨u1.heap.size, 0, none⟩)) u2 (want_none rfl) (ex_al rfl (by rw [hu2]; exact alR18 _)) rfl q211.z (by decide) (q211.k fun _ q212 => ?_);clear q211
      refine q212.t (.slice ad (dnK L x).length cd) (ex_assign rfl (q212.e (j := 51) rfl)) fun _ q213 => ?_;clear q212
      have Bz : BB u2 u1.heap.size 64 (rsC (0, 0, ByteArray.empty)) := by rw [hu2]; exact BB.new _ _ _
      have hu2b : Below u1.heap.size u1 u2 := by rw [hu2]; exact (Below.refl _ _).alloc (Nat.le_refl _) _
      clear hu2
      obtain ⟨u3, hu3⟩ : ∃ y, y = u2.setCells u1.heap.size 0 (rsC (wd L x.o.k x.o.s x.o.v)) := ⟨_, rfl⟩
      refine vs u3 (want_none rfl) (ex_st rfl (q213.e (j := 10) rfl) (q213.e (j := 52) rfl) (by rw [hu3]; exact Bz.st 64 (rsC (wd L x.o.k x.o.s x.o.v)) rfl info3r (oneR18 _))) rfl ?_
      have B10 : BB u3 u1.heap.size 64 (rsC (wd L x.o.k x.o.s x.o.v)) := by rw [hu3]; exact Bz.whole _ rfl
      have hu3b : Below u1.heap.size u1 u3 := by rw [hu3]; exact hu2b.trans (bel_ge (upd18 _ _ _ _) hu2b.size (Nat.le_refl _))
      clear hu3 Bz hu2b
      have B7w := B7v.later hu3b
      have y6 := hu3b.size
      have bE : Below w.heap.size w u3 := bru.trans ((hb1.trans (hu3b.mono y5)).mono (by omega))
      have q214 := (((((((Rp.nil q213.z).cons (q213.a 0 rfl)).cons (q213.a 1 rfl)).cons (q213.a 6 rfl)).cons (q213.a 7 rfl)).cons (q213.a 9 rfl)).cons (q213.a 10 rfl))
      clear q213
      refine wpList_nil ?_
      go_upto_region 12 with fail
      refine wp_region_lit ?_
      refine q214.t (.pointer (some ⟨wr.heap.size, 6, none⟩)) (ex_fa rfl (q214.e (j := 7) rfl) (faK4 _ _)) fun _ q215 => ?_;clear q214
      refine q215.t (.int .i64 x.e) (ex_ld rfl (q215.e (j := 53) rfl) (ldI18 ((B7w.cell 6).trans rfl))) fun _ q216 => ?_;clear q215
      refine q216.t (.bool (ansK x)) (ex_bin rfl (q216.e (j := 54) rfl) rfl (geqC18 _ _ _ _ _)) fun _ q217 => ?_;clear q216
      refine q217.t (.bool (ansK x)) (ex_move rfl (q217.e (j := 55) rfl)) fun _ q218 => ?_;clear q217
      refine vl (true && (ansK x == true)) (.agg (rsC (wd L x.o.k x.o.s x.o.v)).toArray) (want_g rfl rfl (q218.a 56 rfl)) (fun hc => ex_ld rfl (q218.e (j := 10) rfl) (B10.ld 64 Try.underlying64 rfl info3r)) rfl q218.z (by decide) (q218.k fun _ q219 => ?_);clear q218
      refine vl (true && (ansK x == true)) (.pointer (some ⟨wr.heap.size, 7, none⟩)) (want_g rfl rfl (q219.a 56 rfl)) (fun hc => ex_fa rfl (q219.e (j := 7) rfl) (faK5 _ _)) rfl q219.z (by decide) (q219.k fun _ q220 => ?_);clear q219
      refine vl (true && (ansK x == true)) (.agg #[.int .i64 x.r.1, .int .i64 x.r.2.1, .string x.r.2.2]) (want_g rfl rfl (q220.a 56 rfl)) (fun hc => ex_ld rfl (ev (q220.a 58 rfl) hc) B7w.ldR) rfl q220.z (by decide) (q220.k fun _ q221 => ?_);clear q220
      refine vl (true && (ansK x == true)) (.bool (!decide (wd L x.o.k x.o.s x.o.v = x.r))) (want_g rfl rfl (q221.a 56 rfl)) (fun hc => ex_bin rfl (ev (q221.a 57 rfl) hc) (ev (q221.a 59 rfl) hc) (neqR18 _ _ (wd L x.o.k x.o.s x.o.v) x.r _)) rfl q221.z (by decide) (q221.k fun _ q222 => ?_);clear q221
      refine q222.t (.bool (offK L x)) (ex_and rfl (q222.a 56 rfl) (q222.a 60 rfl) rfl) fun _ q223 => ?_;clear q222
      have q224 := ((((((Rp.nil q223.z).cons (q223.a 0 rfl)).cons (q223.a 1 rfl)).cons (q223.a 6 rfl)).cons (q223.a 9 rfl)).cons (q223.a 61 rfl))
      clear q223
      refine wpList_nil ?_
      cases hof : offK L x with
      | true =>
        have q224x := q224.a 61 rfl
        rw [hof] at q224x
        have hEE : brk l Ord = (i : Int) := by rw [hR, hRx, hof]; simp
        go_upto_region 13 with fail
        refine wp_cond_true (ev q224x rfl) ?_
        go_upto_region 13 with fail
        refine wp_region_lit ?_
        refine q224.t (.int .i64 (i : Int)) (ex_move rfl (q224.e (j := 6) rfl)) fun _ q225 => ?_;clear q224
        refine q225.t (.int .i64 (i : Int)) (ex_assign rfl (q225.e (j := 62) rfl)) fun _ q226 => ?_;clear q225
        refine wpList_nil ?_
        go_wp2
        refine bodyPost_ret (results_tmp rfl _ _ _) rfl ⟨?_, bE⟩
        rw [getD_of (q226.a 4 rfl)]
        exact ret18 hEE.symm
      | false =>
        have q224x := q224.a 61 rfl
        rw [hof] at q224x
        go_upto_region 14 with fail
        refine wp_cond_false (ev q224x rfl) ?_
        go_upto_region 14 with fail
        refine wp_region_lit ?_
        refine q224.t (.slice ad (dnK L x).length cd) (ex_move rfl (q224.e (j := 9) rfl)) fun _ q225 => ?_;clear q224
        refine q225.t (.slice ad (dnK L x).length cd) (ex_assign rfl (q225.e (j := 63) rfl)) fun _ q226 => ?_;clear q225
        refine wpList_nil ?_
        go_upto_region 4 with fail
        refine wp_region_lit ?_
        refine q226.t (.int .i64 (i : Int)) (ex_move rfl (q226.e (j := 6) rfl)) fun _ q227 => ?_;clear q226
        refine q227.t (.int .i64 ((i + 1 : Nat) : Int)) (ex_bin rfl (q227.e (j := 16) rfl) rfl (add1C _ _ i (by omega) _)) fun _ q228 => ?_;clear q227
        refine q228.t (.int .i64 ((i + 1 : Nat) : Int)) (ex_assign rfl (q228.e (j := 17) rfl)) fun _ q229 => ?_;clear q228
        have q230 := (((((Rp.nil q229.z).cons (q229.a 0 rfl)).cons (q229.a 1 rfl)).cons (q229.a 5 rfl)).cons (q229.a 6 rfl))
        clear q229
        refine wpList_nil ?_
        exact ⟨_, rfl, hit, dnK L x, ad, cd, q230, bE, hC1.later hu3b, hok.dn _ _ _, by rw [hR, hRx, hlt, hof]; rfl⟩
  · obtain rfl : i = Ord.length := by omega
    rw [bkA_end] at hR
    go_upto_region 3 with fail
    refine wp_region_lit ?_
    refine q100.t (.int .i64 (Ord.length : Int)) (ex_move rfl (q100.e (j := 6) rfl)) fun _ q101 => ?_;clear q100
    refine q101.t (.slice a2 Ord.length c2) (ex_move rfl (q101.e (j := 1) rfl)) fun _ q102 => ?_;clear q101
    refine q102.t (.int .i64 (Ord.length : Int)) (ex_lenN18 rfl rfl (q102.e (j := 13) rfl)) fun _ q103 => ?_;clear q102
    refine q103.t (.bool false) (ex_bin rfl (q103.e (j := 12) rfl) (q103.e (j := 14) rfl) (ltF _ _ hit _)) fun _ q104 => ?_;clear q103
    refine wpList_nil ?_
    go_upto_region 15 with fail
    refine wp_cond_false (q104.e (j := 15) rfl) ?_
    go_upto_region 15 with fail
    refine wp_region_lit ?_
    refine q104.t (.int .i64 ((0 : Nat) : Int)) (ex_assign rfl rfl) fun _ q105 => ?_;clear q104
    have q106 := ((((Rp.nil q105.z).cons (q105.a 0 rfl)).cons (q105.a 1 rfl)).cons (q105.a 11 rfl))
    clear q105
    refine wpList_nil ?_
    go_upto_region 16 with fail
    refine v_loop 11 l.length (fun j T u => Rp T 84 [(11, gw true (.int .i64 (j : Int))), (1, gw true (.slice a2 Ord.length c2)), (0, gw true (.slice a l.length c))] ∧ Hid (Below wr.heap.size wr u ∧ lcI l (dO l.length Ord) j = false)) (fun j T w h => h.1.a 11 rfl) ⟨q106, Below.refl _ _, by simp [lcI]⟩ ?_
    clear q106
    intro j T2 u hj hh2
    obtain ⟨q200, HJ2⟩ := hh2
    obtain ⟨hub, hla2⟩ := HJ2.out
    clear HJ2
    have y4 := hub.size
    have bru : Below w.heap.size w u := br.trans (hub.mono zr)
    by_cases hjt : j < l.length
    · obtain ⟨y, hy⟩ : ∃ y, l[j]? = some y := ⟨_, List.getElem?_eq_getElem hjt⟩
      obtain ⟨qb, ob, hqb, hqbl, hlb⟩ := (h.on bru (Nat.le_refl _)).place (by rintro rfl; simp at hy)
      have hls := lcI_succ (D := dO l.length Ord) hy
      rw [dO_at _ hjt] at hls
      go_upto_region 16 with fail
      refine wp_region_lit ?_
      refine q200.t (.int .i64 (j : Int)) (ex_move rfl (q200.e (j := 11) rfl)) fun _ q201 => ?_;clear q200
      refine q201.t (.slice a l.length c) (ex_move rfl (q201.e (j := 0) rfl)) fun _ q202 => ?_;clear q201
      refine q202.t (.int .i64 (l.length : Int)) (ex_len18 rfl rfl (q202.e (j := 65) rfl)) fun _ q203 => ?_;clear q202
      refine q203.t (.bool true) (ex_bin rfl (q203.e (j := 64) rfl) (q203.e (j := 66) rfl) (ltT _ _ hjt _)) fun _ q204 => ?_;clear q203
      refine wpList_nil ?_
      go_upto_region 18 with fail
      refine wp_cond_true (q204.e (j := 67) rfl) ?_
      go_upto_region 18 with fail
      refine wp_region_lit ?_
      refine q204.t (.slice a l.length c) (ex_move rfl (q204.e (j := 0) rfl)) fun _ q205 => ?_;clear q204
      refine q205.t (.int .i64 (j : Int)) (ex_move rfl (q205.e (j := 11) rfl)) fun _ q206 => ?_;clear q205
      refine q206.t (.pointer (some ⟨qb, ob + j * 10, none⟩)) (ex_ix rfl (q206.e (j := 70) rfl) (q206.e (j := 71) rfl) (by rw [hqb]; exact ixK qb ob l.length c j hjt _)) fun _ q207 => ?_;clear q206
      refine q207.t (.pointer (some ⟨qb, ob + j * 10 + 6, none⟩)) (ex_fa rfl (q207.e (j := 72) rfl) (faK4o _ _ _)) fun _ q208 => ?_;clear q207
      refine q208.t (.int .i64 y.e) (ex_ld rfl (q208.e (j := 73) rfl) (ldI18 (hlb j y hy 6 _ rfl))) fun _ q209 => ?_;clear q208
      refine q209.t (.bool (ansK y)) (ex_bin rfl (q209.e (j := 74) rfl) rfl (geqC18 _ _ _ _ _)) fun _ q210 => ?_;clear q209
      refine q210.t (.bool (ansK y)) (ex_move rfl (q210.e (j := 75) rfl)) fun _ q211 => ?_;clear q210
      refine vl (true && (ansK y == true)) (.slice a2 Ord.length c2) (want_g rfl rfl (q211.a 76 rfl)) (fun hc => ex_move rfl (q211.e (j := 1) rfl)) rfl q211.z (by decide) (q211.k fun _ q212 => ?_);clear q211
      refine vl (true && (ansK y == true)) (.int .i64 (j : Int)) (want_g rfl rfl (q212.a 76 rfl)) (fun hc => ex_move rfl (q212.e (j := 11) rfl)) rfl q212.z (by decide) (q212.k fun _ q213 => ?_);clear q212
      refine vcall (true && (ansK y == true)) (.bool (hasI Ord (j : Int))) (want_g rfl rfl (q213.a 76 rfl)) (fun hc => ex_call rfl (by simp only [List.map_toArray, List.map_cons, List.map_nil, (ev (q213.a 77 rfl) hc), (ev (q213.a 78 rfl) hc), evc] <;> rfl) rfl) (fun hc => (has18 Ord a2 c2 (j : Int) u (h2.on bru (Nat.le_refl _)) (by omega)).mono fun e w9 h9 => ⟨h9.1, h9.2 ▸ Below.refl _ _⟩) rfl q213.z (by decide) (q213.kc fun _ u1 hu1 q214 => ?_);clear q213
      refine vl (true && (ansK y == true)) (.bool (!hasI Ord (j : Int))) (want_g rfl rfl (q214.a 76 rfl)) (fun hc => ex_not rfl (ev (q214.a 79 rfl) hc)) rfl q214.z (by decide) (q214.k fun _ q215 => ?_);clear q214
      refine q215.t (.bool (ansK y && !hasI Ord (j : Int))) (ex_and rfl (q215.a 76 rfl) (q215.a 80 rfl) rfl) fun _ q216 => ?_;clear q215
      have q217 := (((((Rp.nil q216.z).cons (q216.a 0 rfl)).cons (q216.a 1 rfl)).cons (q216.a 11 rfl)).cons (q216.a 81 rfl))
      clear q216
      refine wpList_nil ?_
      cases hD : (ansK y && !hasI Ord (j : Int)) with
      | true =>
        have q217x := q217.a 81 rfl
        rw [hD] at q217x
        have hlk : lckK l (dO l.length Ord) = true := lck_of (j := j + 1) (by omega) (by rw [hls, hD]; simp)
        have hEE : brk l Ord = (Ord.length : Int) := by rw [hR, hlk]; simp
        go_upto_region 19 with fail
        refine wp_cond_true (ev q217x rfl) ?_
        go_upto_region 19 with fail
        refine wp_region_lit ?_
        refine q217.t (.slice a2 Ord.length c2) (ex_move rfl (q217.e (j := 1) rfl)) fun _ q218 => ?_;clear q217
        refine q218.t (.int .i64 (Ord.length : Int)) (ex_lenN18 rfl rfl (q218.e (j := 82) rfl)) fun _ q219 => ?_;clear q218
        refine q219.t (.int .i64 (Ord.length : Int)) (ex_assign rfl (q219.e (j := 83) rfl)) fun _ q220 => ?_;clear q219
        refine wpList_nil ?_
        go_wp2
        refine bodyPost_ret (results_tmp rfl _ _ _) rfl ⟨?_, bru.trans (hu1.mono (by omega))⟩
        rw [getD_of (q220.a 4 rfl)]
        exact ret18 hEE.symm
      | false =>
        have q217x := q217.a 81 rfl
        rw [hD] at q217x
        go_upto_region 17 with fail
        refine wp_cond_false (ev q217x rfl) ?_
        go_upto_region 17 with fail
        refine wp_region_lit ?_
        refine q217.t (.int .i64 (j : Int)) (ex_move rfl (q217.e (j := 11) rfl)) fun _ q218 => ?_;clear q217
        refine q218.t (.int .i64 ((j + 1 : Nat) : Int)) (ex_bin rfl (q218.e (j := 68) rfl) rfl (add1C _ _ j (by omega) _)) fun _ q219 => ?_;clear q218
        refine q219.t (.int .i64 ((j + 1 : Nat) : Int)) (ex_assign rfl (q219.e (j := 69) rfl)) fun _ q220 => ?_;clear q219
        have q221 := ((((Rp.nil q220.z).cons (q220.a 0 rfl)).cons (q220.a 1 rfl)).cons (q220.a 11 rfl))
        clear q220
        refine wpList_nil ?_
        exact ⟨_, rfl, hjt, q221, hub.trans (hu1.mono y4), by rw [hls, hla2, hD]; rfl⟩
    · obtain rfl : j = l.length := by omega
      have hlk : lckK l (dO l.length Ord) = false := hla2
      have hEE : brk l Ord = -1 := by rw [hR, hlk]; rfl
      go_upto_region 16 with fail
      refine wp_region_lit ?_
      refine q200.t (.int .i64 (l.length : Int)) (ex_move rfl (q200.e (j := 11) rfl)) fun _ q201 => ?_;clear q200
      refine q201.t (.slice a l.length c) (ex_move rfl (q201.e (j := 0) rfl)) fun _ q202 => ?_;clear q201
      refine q202.t (.int .i64 (l.length : Int)) (ex_len18 rfl rfl (q202.e (j := 65) rfl)) fun _ q203 => ?_;clear q202
      refine q203.t (.bool false) (ex_bin rfl (q203.e (j := 64) rfl) (q203.e (j := 66) rfl) (ltF _ _ hjt _)) fun _ q204 => ?_;clear q203
      refine wpList_nil ?_
      go_upto_region 20 with fail
      refine wp_cond_false (q204.e (j := 67) rfl) ?_
      go_upto_region 20 with fail
      refine wp_region_lit ?_
      refine q204.t (.int .i64 (-1)) (ex_assign rfl rfl) fun _ q205 => ?_;clear q204
      refine wpList_nil ?_
      go_wp2
      refine bodyPost_ret (results_tmp rfl _ _ _) rfl ⟨?_, bru⟩
      rw [getD_of (q205.a 4 rfl)]
      exact ret18 hEE.symm

end Go.Proofs.Ytjkleldoeojbbaa
