import Derived.Test.YtjkleldoeojbbaaK25
import Derived.Test.YtjkleldoeojbbaaVh
import Derived.Test.YtjkleldoeojbbaaK26
namespace Go.Proofs.Ytjkleldoeojbbaa
open Go.RowKit Go.Maps
open Classical
set_option linter.unusedVariables false
set_option linter.unusedSimpArgs false

def hasI (O : List Int) (k : Int) : Bool := O.any fun x => decide (x = k)
theorem hasI_take {O : List Int} {k p : Int} {j : Nat} (h : O[j]? = some p) : hasI (O.take (j + 1)) k = (hasI (O.take j) k || decide (p = k)) := by
  unfold hasI
  rw [List.take_add_one, h]
  simp
theorem hasI_mono {O : List Int} {k : Int} {j : Nat} (h : hasI (O.take j) k = true) : hasI O k = true := by
  unfold hasI at *
  rw [List.any_eq_true] at *
  obtain ⟨x, hx, h2⟩ := h
  exact ⟨x, List.mem_of_mem_take hx, h2⟩
/-- Which of n places stand in a list. -/
def dO (n : Nat) (O : List Int) : List Bool := (List.range n).map fun (k : Nat) => hasI O (k : Int)
theorem dO_at {n k : Nat} (O : List Int) (h : k < n) : at9 (dO n O) k = hasI O (k : Int) := by simp [at9, dO, h]
/-- Where an order breaks, by the document. -/
def bkA (l : List Kl) : Nat → List Int → List Int → List Cl → Int
  | i, ahead, [], _ => if lckK l (dO l.length ahead) then (i : Int) else -1
  | i, ahead, p :: r, L => match l[p.toNat]? with
    | some x => if lateK l (dO l.length ahead) x || offK L x then (i : Int) else bkA l (i + 1) (ahead ++ [p]) r (dnK L x)
    | none => -1
theorem bkA_at {l : List Kl} {Ord : List Int} {j : Nat} {p : Int} {x : Kl} {L : List Cl} (h : Ord[j]? = some p) (hx : l[p.toNat]? = some x) : bkA l j (Ord.take j) (Ord.drop j) L = if lateK l (dO l.length (Ord.take j)) x || offK L x then (j : Int) else bkA l (j + 1) (Ord.take (j + 1)) (Ord.drop (j + 1)) (dnK L x) := by
  have hj := (List.getElem?_eq_some_iff.1 h).1
  have he := (List.getElem?_eq_some_iff.1 h).2
  rw [List.drop_eq_getElem_cons hj, he, bkA, hx, List.take_add_one, h]
  rfl
theorem bkA_end {l : List Kl} (Ord : List Int) (L : List Cl) : bkA l Ord.length (Ord.take Ord.length) (Ord.drop Ord.length) L = if lckK l (dO l.length Ord) then (Ord.length : Int) else -1 := by simp [bkA]
def brk (l : List Kl) (Ord : List Int) : Int := bkA l 0 [] Ord []
theorem slc_nil (w : World) : SlC w (.slice none 0 0) [] none 0 := ⟨rfl, Nat.le_refl _, by unfold maxLen; omega, fun _ => ⟨rfl, rfl⟩, fun x hx => by cases hx⟩
theorem geqC18 (x y : Operand) (a b : Int) (w : World) : (do eqGuard .geq 3 x y (.int .i64 a) (.int .i64 b); binOp .geq 3 (.int .i64 a) (.int .i64 b) : Sem Value).run Try.prog w = .ok (.bool (decide (b ≤ a))) w := geqC x y a b w
set_option maxRecDepth 100000 in
set_option maxHeartbeats 2000000 in
theorem has18 (O : List Int) (a2 : Option Addr) (c2 : Nat) (k : Int) (w : World) (h : SlY yN w a2 O.length c2 O) (hb : O.length ≤ 140737488355328) :
    Calls Try.prog 58 #[.slice a2 O.length c2, .int .i64 k] w fun e w' => e = .returned (.bool (hasI O k)) ∧ w' = w := by
  go_enter Try.func58, Try.ntmps58
  go_upto_region 0 with fail
  refine wp_region_lit ?_
  refine vl_gen (fun T => Rp T 18 [(1, gw true (.int .i64 k)), (0, gw true (.slice a2 O.length c2))]) (((Rp.nil rfl).cons rfl).cons rfl) (fun Z0 q0 => ?_)
  refine q0.t (.bool false) (ex_assign rfl rfl) fun _ q1 => ?_;clear q0
  refine wpList_nil ?_
  go_upto_region 1 with fail
  refine wp_region_lit ?_
  refine q1.t (.int .i64 ((0 : Nat) : Int)) (ex_assign rfl rfl) fun _ q2 => ?_;clear q1
  have q3 := ((((Rp.nil q2.z).cons (q2.a 0 rfl)).cons (q2.a 1 rfl)).cons (q2.a 5 rfl))
  clear q2
  refine wpList_nil ?_
  go_upto_region 2 with fail
  refine v_loop 5 O.length (fun j T wr => Rp T 18 [(5, gw true (.int .i64 (j : Int))), (1, gw true (.int .i64 k)), (0, gw true (.slice a2 O.length c2))] ∧ Hid (wr = w ∧ hasI (O.take j) k = false)) (fun j T w h => h.1.a 5 rfl) ⟨q3, rfl, by simp [hasI]⟩ ?_
  clear q3
  intro j T wr hj hh
  obtain ⟨q100, HJ⟩ := hh
  obtain ⟨rfl, hX⟩ := HJ.out
  clear HJ
  by_cases hit : j < O.length
  · obtain ⟨x, hx⟩ : ∃ x, O[j]? = some x := ⟨_, List.getElem?_eq_getElem hit⟩
    obtain ⟨q, o, hq, hql, hc⟩ := h.nm hx
    have hT := hasI_take (k := k) hx
    go_upto_region 2 with fail
    refine wp_region_lit ?_
    refine q100.t (.int .i64 (j : Int)) (ex_move rfl (q100.e (j := 5) rfl)) fun _ q101 => ?_;clear q100
    refine q101.t (.slice a2 O.length c2) (ex_move rfl (q101.e (j := 0) rfl)) fun _ q102 => ?_;clear q101
    refine q102.t (.int .i64 (O.length : Int)) (ex_lenN18 rfl rfl (q102.e (j := 7) rfl)) fun _ q103 => ?_;clear q102
    refine q103.t (.bool true) (ex_bin rfl (q103.e (j := 6) rfl) (q103.e (j := 8) rfl) (ltT _ _ hit _)) fun _ q104 => ?_;clear q103
    refine wpList_nil ?_
    go_upto_region 4 with fail
    refine wp_cond_true (q104.e (j := 9) rfl) ?_
    go_upto_region 4 with fail
    refine wp_region_lit ?_
    refine q104.t (.slice a2 O.length c2) (ex_move rfl (q104.e (j := 0) rfl)) fun _ q105 => ?_;clear q104
    refine q105.t (.int .i64 (j : Int)) (ex_move rfl (q105.e (j := 5) rfl)) fun _ q106 => ?_;clear q105
    refine q106.t (.pointer (some ⟨q, o + j, none⟩)) (ex_ix rfl (q106.e (j := 12) rfl) (q106.e (j := 13) rfl) (by rw [hq]; exact ixN18 q o O.length c2 j hit _)) fun _ q107 => ?_;clear q106
    refine q107.t (.int .i64 x) (ex_ld rfl (q107.e (j := 14) rfl) (ldI18 hc)) fun _ q108 => ?_;clear q107
    refine q108.t (.int .i64 k) (ex_move rfl (q108.e (j := 1) rfl)) fun _ q109 => ?_;clear q108
    refine q109.t (.bool (decide (x = k))) (ex_bin rfl (q109.e (j := 15) rfl) (q109.e (j := 16) rfl) (eqlC _ _ _ _ _)) fun _ q110 => ?_;clear q109
    have q111 := (((((Rp.nil q110.z).cons (q110.a 0 rfl)).cons (q110.a 1 rfl)).cons (q110.a 5 rfl)).cons (q110.a 17 rfl))
    clear q110
    refine wpList_nil ?_
    cases hd : decide (x = k) with
    | true =>
      have q111x := q111.a 17 rfl
      rw [hd] at q111x
      have hE : hasI O k = true := hasI_mono (j := j + 1) (by rw [hT, hd]; simp)
      go_upto_region 5 with fail
      refine wp_cond_true (ev q111x rfl) ?_
      go_upto_region 5 with fail
      refine wp_region_lit ?_
      refine q111.t (.bool true) (ex_assign rfl rfl) fun _ q112 => ?_;clear q111
      refine wpList_nil ?_
      go_wp2
      refine bodyPost_ret (results_tmp rfl _ _ _) rfl ⟨?_, rfl⟩
      rw [getD_of (q112.a 4 rfl)]
      exact retB18 hE.symm
    | false =>
      have q111x := q111.a 17 rfl
      rw [hd] at q111x
      go_upto_region 3 with fail
      refine wp_cond_false (ev q111x rfl) ?_
      go_upto_region 3 with fail
      refine wp_region_lit ?_
      refine q111.t (.int .i64 (j : Int)) (ex_move rfl (q111.e (j := 5) rfl)) fun _ q112 => ?_;clear q111
      refine q112.t (.int .i64 ((j + 1 : Nat) : Int)) (ex_bin rfl (q112.e (j := 10) rfl) rfl (add1C _ _ j (by omega) _)) fun _ q113 => ?_;clear q112
      refine q113.t (.int .i64 ((j + 1 : Nat) : Int)) (ex_assign rfl (q113.e (j := 11) rfl)) fun _ q114 => ?_;clear q113
      have q115 := ((((Rp.nil q114.z).cons (q114.a 0 rfl)).cons (q114.a 1 rfl)).cons (q114.a 5 rfl))
      clear q114
      refine wpList_nil ?_
      exact ⟨_, rfl, hit, q115, rfl, by rw [hT, hX, hd]; rfl⟩
  · obtain rfl : j = O.length := by omega
    rw [List.take_length] at hX
    go_upto_region 2 with fail
    refine wp_region_lit ?_
    refine q100.t (.int .i64 (O.length : Int)) (ex_move rfl (q100.e (j := 5) rfl)) fun _ q101 => ?_;clear q100
    refine q101.t (.slice a2 O.length c2) (ex_move rfl (q101.e (j := 0) rfl)) fun _ q102 => ?_;clear q101
    refine q102.t (.int .i64 (O.length : Int)) (ex_lenN18 rfl rfl (q102.e (j := 7) rfl)) fun _ q103 => ?_;clear q102
    refine q103.t (.bool false) (ex_bin rfl (q103.e (j := 6) rfl) (q103.e (j := 8) rfl) (ltF _ _ hit _)) fun _ q104 => ?_;clear q103
    refine wpList_nil ?_
    go_upto_region 6 with fail
    refine wp_cond_false (q104.e (j := 9) rfl) ?_
    go_upto_region 6 with fail
    refine wp_region_lit ?_
    refine q104.t (.bool false) (ex_assign rfl rfl) fun _ q105 => ?_;clear q104
    refine wpList_nil ?_
    go_wp2
    refine bodyPost_ret (results_tmp rfl _ _ _) rfl ⟨?_, rfl⟩
    rw [getD_of (q105.a 4 rfl)]
    exact retB18 hX.symm
theorem faK4o (q o : Nat) (w : World) : (Instr.fieldAt 66 (.pointer (some ⟨q, o, none⟩)) 4).run Try.prog w = .ok (.pointer (some ⟨q, o + 6, none⟩)) w := by go_simp
theorem lck_of {l : List Kl} {D : List Bool} {j : Nat} (hj : j ≤ l.length) (h : lcI l D j = true) : lckK l D = true := by
  unfold lcI at h
  unfold lckK lcI
  rw [List.any_eq_true] at h ⊢
  obtain ⟨i, hi, h⟩ := h
  exact ⟨i, List.mem_range.2 (by have := List.mem_range.1 hi; omega), h⟩
set_option maxRecDepth 100000 in
set_option maxHeartbeats 2000000 in
theorem breaks18 (l : List Kl) (a : Option Addr) (c : Nat) (Ord : List Int) (a2 : Option Addr) (c2 : Nat) (w : World) (h : SlY yK w a l.length c l) (h2 : SlY yN w a2 Ord.length c2 Ord) (hfx : ∀ x ∈ l, x.fits) (hpl : plc l.length Ord) (hb : l.length ≤ 140737488355328) (hb2 : Ord.length ≤ 140737488355328) :
    Calls Try.prog 89 #[.slice a l.length c, .slice a2 Ord.length c2] w fun e w' => e = .returned (.int .i64 (brk l Ord)) ∧ Below w.heap.size w w' := by
  go_enter Try.func89, Try.ntmps89
  go_upto_region 0 with fail
  refine wp_region_lit ?_
  refine vl_gen (fun T => Rp T 84 [(1, gw true (.slice a2 Ord.length c2)), (0, gw true (.slice a l.length c))]) (((Rp.nil rfl).cons rfl).cons rfl) (fun Z0 q0 => ?_)
  refine q0.t (.int .i64 0) (ex_assign rfl rfl) fun _ q1 => ?_;clear q0
  refine wpList_nil ?_
  go_upto_region 1 with fail
  refine wp_region_lit ?_
  refine q1.t (.slice none 0 0) (ex_assign rfl rfl) fun _ q2 => ?_;clear q1
  refine wpList_nil ?_
  go_upto_region 2 with fail
  refine wp_region_lit ?_
  refine q2.t (.int .i64 ((0 : Nat) : Int)) (ex_assign rfl rfl) fun _ q3 => ?_;clear q2
  have q4 := (((((Rp.nil q3.z).cons (q3.a 0 rfl)).cons (q3.a 1 rfl)).cons (q3.a 5 rfl)).cons (q3.a 6 rfl))
  clear q3
  refine wpList_nil ?_
  go_upto_region 3 with fail
  refine v_loop 6 Ord.length (fun i T wr => ∃ (L : List Cl) (ac : Option Addr) (cc : Nat), Rp T 84 [(6, gw true (.int .i64 (i : Int))), (5, gw true (.slice ac L.length cc)), (1, gw true (.slice a2 Ord.length c2)), (0, gw true (.slice a l.length c))] ∧ Hid (Below w.heap.size w wr ∧ SlC wr (.slice ac L.length cc) L ac cc ∧ Ok L ∧ brk l Ord = bkA l i (Ord.take i) (Ord.drop i) L)) (fun j T w h => by obtain ⟨_, _, _, h, _⟩ := h; exact h.a 6 rfl) ⟨[], none, 0, q4, Below.refl _ _, slc_nil _, Ok.nil, rfl⟩ ?_
  clear q4
  intro i T wr hi hh
  obtain ⟨L, ac, cc, q100, HJ⟩ := hh
  obtain ⟨br, hC, hok, hR⟩ := HJ.out
  clear HJ
  have zr := br.size
  by_cases hit : i < Ord.length
  · obtain ⟨pp, hp⟩ : ∃ p, Ord[i]? = some p := ⟨_, List.getElem?_eq_getElem hit⟩
    have hpp := hpl pp (List.mem_of_getElem? hp)
    obtain ⟨pn, rfl⟩ : ∃ pn : Nat, pp = (pn : Int) := ⟨pp.toNat, by omega⟩
    have hpn : pn < l.length := by omega
    obtain ⟨x, hx⟩ : ∃ x, l[pn]? = some x := ⟨_, List.getElem?_eq_getElem hpn⟩
    have fx := hfx x (List.mem_of_getElem? hx)
    have hRx := bkA_at (L := L) hp (by rw [Int.toNat_natCast]; exact hx)
    obtain ⟨q2, o2, hq2, hq2l, hc2⟩ := (h2.on br (Nat.le_refl _)).nm hp
    obtain ⟨qa, oa, hqa, hqal, hla⟩ := (h.on br (Nat.le_refl _)).place (by rintro rfl; simp at hx)
    go_upto_region 3 with fail
    refine wp_region_lit ?_
    refine q100.t (.int .i64 (i : Int)) (ex_move rfl (q100.e (j := 6) rfl)) fun _ q101 => ?_;clear q100
    refine q101.t (.slice a2 Ord.length c2) (ex_move rfl (q101.e (j := 1) rfl)) fun _ q102 => ?_;clear q101
    refine q102.t (.int .i64 (Ord.length : Int)) (ex_lenN18 rfl rfl (q102.e (j := 13) rfl)) fun _ q103 => ?_;clear q102
    refine q103.t (.bool true) (ex_bin rfl (q103.e (j := 12) rfl) (q103.e (j := 14) rfl) (ltT _ _ hit _)) fun _ q104 => ?_;clear q103
    refine wpList_nil ?_
    go_upto_region 5 with fail
    refine wp_cond_true (q104.e (j := 15) rfl) ?_
    go_upto_region 5 with fail
    refine wp_region_lit ?_
    refine q104.t (.slice a l.length c) (ex_move rfl (q104.e (j := 0) rfl)) fun _ q105 => ?_;clear q104
    refine q105.t (.slice a2 Ord.length c2) (ex_move rfl (q105.e (j := 1) rfl)) fun _ q106 => ?_;clear q105
    refine q106.t (.int .i64 (i : Int)) (ex_move rfl (q106.e (j := 6) rfl)) fun _ q107 => ?_;clear q106
    refine q107.t (.pointer (some ⟨q2, o2 + i, none⟩)) (ex_ix rfl (q107.e (j := 19) rfl) (q107.e (j := 20) rfl) (by rw [hq2]; exact ixN18 q2 o2 Ord.length c2 i hit _)) fun _ q108 => ?_;clear q107
    refine q108.t (.int .i64 (pn : Int)) (ex_ld rfl (q108.e (j := 21) rfl) (ldI18 hc2)) fun _ q109 => ?_;clear q108
    refine q109.t (.pointer (some ⟨qa, oa + pn * 10, none⟩)) (ex_ix rfl (q109.e (j := 18) rfl) (q109.e (j := 22) rfl) (by rw [hqa]; exact ixK qa oa l.length c pn hpn _)) fun _ q110 => ?_;clear q109
    refine q110.t (x.val) (ex_ld rfl (q110.e (j := 23) rfl) (ldEl hla hx)) fun _ q111 => ?_;clear q110
    obtain ⟨r1, hr1⟩ : ∃ y, y = wr.alloc (.cells zK.cs.toArray 66) := ⟨_, rfl⟩
    refine vw (.pointer (some ⟨wr.heap.size, 0, none⟩)) r1 (want_none rfl) (ex_al rfl (by rw [hr1]; exact alK _)) rfl q111.z (by decide) (q111.k fun _ q112 => ?_);clear q111
    have Bz : BB r1 wr.heap.size 66 zK.cs := by rw [hr1]; exact BB.new _ _ _
    have hr1b : Below wr.heap.size wr r1 := by rw [hr1]; exact (Below.refl _ _).alloc (Nat.le_refl _) _
    clear hr1
    obtain ⟨r2, hr2⟩ : ∃ y, y = r1.setCells wr.heap.size 0 x.cs := ⟨_, rfl⟩
    refine vs r2 (want_none rfl) (ex_st rfl (q112.e (j := 7) rfl) (q112.e (j := 24) rfl) (by rw [hr2]; exact Bz.stK)) rfl ?_
    have B7 : BB r2 wr.heap.size 66 x.cs := by rw [hr2]; exact Bz.whole _ rfl
    have hr2b : Below wr.heap.size wr r2 := by rw [hr2]; exact hr1b.trans (bel_ge (upd18 _ _ _ _) hr1b.size (Nat.le_refl _))
    clear hr2 Bz hr1b
    have y2 := hr2b.size
    have q113 := ((((((Rp.nil q112.z).cons (q112.a 0 rfl)).cons (q112.a 1 rfl)).cons (q112.a 5 rfl)).cons (q112.a 6 rfl)).cons (q112.a 7 rfl))
    clear q112
    refine wpList_nil ?_
    go_upto_region 6 with fail
    refine wp_region_lit ?_
    refine q113.t (.int .i64 ((0 : Nat) : Int)) (ex_assign rfl rfl) fun _ q114 => ?_;clear q113
    have q115 := (((((((Rp.nil q114.z).cons (q114.a 0 rfl)).cons (q114.a 1 rfl)).cons (q114.a 5 rfl)).cons (q114.a 6 rfl)).cons (q114.a 7 rfl)).cons (q114.a 8 rfl))
    clear q114
    refine wpList_nil ?_
    go_upto_region 7 with fail
    refine v_loop 8 l.length (fun j T u => Rp T 84 [(8, gw true (.int .i64 (j : Int))), (7, gw true (.pointer (some ⟨wr.heap.size, 0, none⟩))), (6, gw true (.int .i64 (i : Int))), (5, gw true (.slice ac L.length cc)), (1, gw true (.slice a2 Ord.length c2)), (0, gw true (.slice a l.length c))] ∧ Hid (Below r2.heap.size r2 u ∧ laI l (dO l.length (Ord.take i)) x j = false)) (fun j T w h => h.1.a 8 rfl) ⟨q115, Below.refl _ _, by simp [laI]⟩ ?_
    clear q115
    intro j T2 u hj hh2
    obtain ⟨q200, HJ2⟩ := hh2
    obtain ⟨hub, hla2⟩ := HJ2.out
    clear HJ2
    have y4 := hub.size
    have hub2 : Below wr.heap.size wr u := hr2b.trans (hub.mono (by omega))
    have B7u := B7.later hub
    have bru : Below w.heap.size w u := br.trans (hub2.mono zr)
    by_cases hjt : j < l.length
    · obtain ⟨y, hy⟩ : ∃ y, l[j]? = some y := ⟨_, List.getElem?_eq_getElem hjt⟩
      obtain ⟨qb, ob, hqb, hqbl, hlb⟩ := (h.on bru (Nat.le_refl _)).place (by rintro rfl; simp at hx)
      have hls := laI_succ (D := dO l.length (Ord.take i)) (x := x) hy
      rw [dO_at _ hjt] at hls
      have htk := (h2.on bru (Nat.le_refl _)).take i (by omega)
      have htl : (Ord.take i).length = i := by rw [List.length_take]; omega
      go_upto_region 7 with fail
      refine wp_region_lit ?_
      refine q200.t (.int .i64 (j : Int)) (ex_move rfl (q200.e (j := 8) rfl)) fun _ q201 => ?_;clear q200
      refine q201.t (.slice a l.length c) (ex_move rfl (q201.e (j := 0) rfl)) fun _ q202 => ?_;clear q201
      refine q202.t (.int .i64 (l.length : Int)) (ex_len18 rfl rfl (q202.e (j := 26) rfl)) fun _ q203 => ?_;clear q202
      refine q203.t (.bool true) (ex_bin rfl (q203.e (j := 25) rfl) (q203.e (j := 27) rfl) (ltT _ _ hjt _)) fun _ q204 => ?_;clear q203
      refine wpList_nil ?_
      go_upto_region 9 with fail
      refine wp_cond_true (q204.e (j := 28) rfl) ?_
      go_upto_region 9 with fail
      refine vq_start (C := fun v => Below u.heap.size u v) (by kernel_rfl) (by kernel_rfl) (Below.refl _ _).drew ?_
      refine q204.q (.slice a l.length c) (fun v hv => ex_move rfl (q204.e (j := 0) rfl)) fun _ q205 => ?_;clear q204
      refine q205.q (.int .i64 (j : Int)) (fun v hv => ex_move rfl (q205.e (j := 8) rfl)) fun _ q206 => ?_;clear q205
      refine q206.q (.pointer (some ⟨qb, ob + j * 10, none⟩)) (fun v hv => ex_ix rfl (q206.e (j := 31) rfl) (q206.e (j := 32) rfl) (by rw [hqb]; exact ixK qb ob l.length c j hjt _)) fun _ q207 => ?_;clear q206
      refine q207.q (y.val) (fun v hv => ex_ld rfl (q207.e (j := 33) rfl) (ldEl (hlb.upd (S := fun _ => False) (Upd.of_below hv) hqbl id) hy)) fun _ q208 => ?_;clear q207
      refine q208.q (x.val) (fun v hv => ex_ld rfl (q208.e (j := 7) rfl) (B7u.later hv).ldK) fun _ q209 => ?_;clear q208
      refine vq_call18 (true) (.bool (prcK y x)) (want_none rfl) (fun hc v hv => ex_call rfl (by simp only [List.map_toArray, List.map_cons, List.map_nil, (q209.e (j := 34) rfl), (q209.e (j := 35) rfl), evc] <;> rfl) rfl) (fun hc v hv => bel18 hv (refPrec18 y x v) hv.size) rfl q209.z (by decide) (q209.k fun _ q210 => ?_);clear q209
      refine q210.q (.bool (prcK y x)) (fun v hv => ex_move rfl (q210.e (j := 36) rfl)) fun _ q211 => ?_;clear q210
      refine vq (true && (prcK y x == true)) (.slice a2 Ord.length c2) (want_g rfl rfl (q211.a 37 rfl)) (fun hc v hv => ex_move rfl (q211.e (j := 1) rfl)) rfl q211.z (by decide) (q211.k fun _ q212 => ?_);clear q211
      refine vq (true && (prcK y x == true)) (.int .i64 (i : Int)) (want_g rfl rfl (q212.a 37 rfl)) (fun hc v hv => ex_move rfl (q212.e (j := 6) rfl)) rfl q212.z (by decide) (q212.k fun _ q213 => ?_);clear q212
      refine vq (true && (prcK y x == true)) (.slice a2 (Ord.take i).length c2) (want_g rfl rfl (q213.a 37 rfl)) (fun hc v hv => ex_slT18 rfl (ev (q213.a 38 rfl) hc) (ev (q213.a 39 rfl) hc) (by rw [hq2, htl]; exact slToN q2 o2 Ord.length c2 i (by omega) (by have := h2.cap; omega) _)) rfl q213.z (by decide) (q213.k fun _ q214 => ?_);clear q213
      refine vq (true && (prcK y x == true)) (.int .i64 (j : Int)) (want_g rfl rfl (q214.a 37 rfl)) (fun hc v hv => ex_move rfl (q214.e (j := 8) rfl)) rfl q214.z (by decide) (q214.k fun _ q215 => ?_);clear q214
      refine vq_call18 (true && (prcK y x == true)) (.bool (hasI (Ord.take i) (j : Int))) (want_g rfl rfl (q215.a 37 rfl)) (fun hc v hv => ex_call rfl (by simp only [List.map_toArray, List.map_cons, List.map_nil, (ev (q215.a 40 rfl) hc), (ev (q215.a 41 rfl) hc), evc] <;> rfl) rfl) (fun hc v hv => (has18 (Ord.take i) a2 c2 (j : Int) v (by rw [htl]; exact htk.later hv) (by omega)).mono fun e w9 h9 => ⟨h9.1, h9.2 ▸ hv⟩) rfl q215.z (by decide) (q215.k fun _ q216 => ?_);clear q215
      refine vq (true && (prcK y x == true)) (.bool (!hasI (Ord.take i) (j : Int))) (want_g rfl rfl (q216.a 37 rfl)) (fun hc v hv => ex_not rfl (ev (q216.a 42 rfl) hc)) rfl q216.z (by decide) (q216.k fun _ q217 => ?_);clear q216
      refine q217.q (.bool (prcK y x && !hasI (Ord.take i) (j : Int))) (fun v hv => ex_and rfl (q217.a 37 rfl) (q217.a 43 rfl) rfl) fun _ q218 => ?_;clear q217
      refine vq_nil (fun u1 hu1 => ?_)
      have y5 := hu1.size
      have q219 := ((((((((Rp.nil q218.z).cons (q218.a 0 rfl)).cons (q218.a 1 rfl)).cons (q218.a 5 rfl)).cons (q218.a 6 rfl)).cons (q218.a 7 rfl)).cons (q218.a 8 rfl)).cons (q218.a 44 rfl))
      clear q218
      cases hD : (prcK y x && !hasI (Ord.take i) (j : Int)) with
      | true =>
        have q219x := q219.a 44 rfl
        rw [hD] at q219x
        have hlt : lateK l (dO l.length (Ord.take i)) x = true := late_of (j := j + 1) (by omega) (by rw [hls, Bool.and_comm (!_), hD]; simp)
        have hEE : brk l Ord = (i : Int) := by rw [hR, hRx, hlt]; simp
        go_upto_region 10 with fail
        refine wp_cond_true (ev q219x rfl) ?_
        go_upto_region 10 with fail
        refine wp_region_lit ?_
        refine q219.t (.int .i64 (i : Int)) (ex_move rfl (q219.e (j := 6) rfl)) fun _ q220 => ?_;clear q219
        refine q220.t (.int .i64 (i : Int)) (ex_assign rfl (q220.e (j := 45) rfl)) fun _ q221 => ?_;clear q220
        refine wpList_nil ?_
        go_wp2
        refine bodyPost_ret (results_tmp rfl _ _ _) rfl ⟨?_, bru.trans (hu1.mono (by omega))⟩
        rw [getD_of (q221.a 4 rfl)]
        exact ret18 hEE.symm
      | false =>
        have q219x := q219.a 44 rfl
        rw [hD] at q219x
        go_upto_region 8 with fail
        refine wp_cond_false (ev q219x rfl) ?_
        go_upto_region 8 with fail
        refine wp_region_lit ?_
        refine q219.t (.int .i64 (j : Int)) (ex_move rfl (q219.e (j := 8) rfl)) fun _ q220 => ?_;clear q219
        refine q220.t (.int .i64 ((j + 1 : Nat) : Int)) (ex_bin rfl (q220.e (j := 29) rfl) rfl (add1C _ _ j (by omega) _)) fun _ q221 => ?_;clear q220
        refine q221.t (.int .i64 ((j + 1 : Nat) : Int)) (ex_assign rfl (q221.e (j := 30) rfl)) fun _ q222 => ?_;clear q221
        have q223 := (((((((Rp.nil q222.z).cons (q222.a 0 rfl)).cons (q222.a 1 rfl)).cons (q222.a 5 rfl)).cons (q222.a 6 rfl)).cons (q222.a 7 rfl)).cons (q222.a 8 rfl))
        clear q222
        refine wpList_nil ?_
        exact ⟨_, rfl, hjt, q223, hub.trans (hu1.mono y4), by rw [hls, hla2, Bool.and_comm (!_), hD]; rfl⟩
    · obtain rfl : j = l.length := by omega
      have hlt : lateK l (dO l.length (Ord.take i)) x = false := hla2
      go_upto_region 7 with fail
      refine wp_region_lit ?_
      refine q200.t (.int .i64 (l.length : Int)) (ex_move rfl (q200.e (j := 8) rfl)) fun _ q201 => ?_;clear q200
      refine q201.t (.slice a l.length c) (ex_move rfl (q201.e (j := 0) rfl)) fun _ q202 => ?_;clear q201
      refine q202.t (.int .i64 (l.length : Int)) (ex_len18 rfl rfl (q202.e (j := 26) rfl)) fun _ q203 => ?_;clear q202
      refine q203.t (.bool false) (ex_bin rfl (q203.e (j := 25) rfl) (q203.e (j := 27) rfl) (ltF _ _ hjt _)) fun _ q204 => ?_;clear q203
      refine wpList_nil ?_
      go_upto_region 11 with fail
      refine wp_cond_false (q204.e (j := 28) rfl) ?_
      go_upto_region 11 with fail
      refine wp_region_lit ?_
      refine q204.t (.slice ac L.length cc) (ex_move rfl (q204.e (j := 5) rfl)) fun _ q205 => ?_;clear q204
      refine q205.t (.pointer (some ⟨wr.heap.size, 2, none⟩)) (ex_fa rfl (q205.e (j := 7) rfl) (faK2 _ _)) fun _ q206 => ?_;clear q205
      refine q206.t (.agg #[.int .i64 x.o.k, .int .i64 x.o.s, .string x.o.v]) (ex_ld rfl (q206.e (j := 48) rfl) B7u.ldO) fun _ q207 => ?_;clear q206
      refine vcallP (want_none rfl) (ex_call rfl (by simp only [List.map_toArray, List.map_cons, List.map_nil, (q207.e (j := 47) rfl), (q207.e (j := 49) rfl), evc] <;> rfl) rfl) (refdo_any L ac cc x.o.k x.o.s x.o.v fx.ow u (hC.later hub2) hok) rfl q207.z (by decide) ?_
      rintro e u1 ⟨ad, cd, rfl, hC1, hb1, _⟩
      refine ⟨_, rfl, q207.k fun _ q208 => ?_⟩;clear q207
      have y5 := hb1.size
      have B7v := B7u.later hb1
      refine q208.t (.tuple #[.slice ad (dn L x.o.k x.o.s x.o.v).length cd, rV (wd L x.o.k x.o.s x.o.v)]) (ex_move rfl (q208.e (j := 50) rfl)) fun _ q209 => ?_;clear q208
      refine q209.t (.slice ad (dnK L x).length cd) (ex_ext18 rfl (q209.e (j := 46) rfl) rfl) fun _ q210 => ?_;clear q209
      refine q210.t (.agg (rsC (wd L x.o.k x.o.s x.o.v)).toArray) (ex_ext18 rfl (q210.e (j := 46) rfl) rfl) fun _ q211 => ?_;clear q210
      obtain ⟨u2, hu2⟩ : ∃ y, y = u1.alloc (.cells (rsC (0, 0, ByteArray.empty)).toArray 64) := ⟨_, rfl⟩
      refine vw (.pointer (some ⟨u1.heap.size, 0, none⟩)) u2 (want_none rfl) (ex_al rfl (by rw [hu2]; exact alR18 _)) rfl q211.z (by decide) (q211.k fun _ q212 => ?_);clear q211
      refine q212.t (.slice ad (dnK L x).length cd) (ex_assign rfl (q212.e (j := 51) rfl)) fun _ q213 => ?_;clear q212
      have Bz : BB u2 u1.heap.size 64 (rsC (0, 0, ByteArray.empty)) := by rw [hu2]; exact BB.new _ _ _
      have hu2b : Below u1.heap.size u1 u2 := by rw [hu2]; exact (Below.refl _ _).alloc (Nat.le_refl _) _
      clear hu2
      obtain ⟨u3, hu3⟩ : ∃ y, y = u2.setCells u1.heap.size 0 (rsC (wd L x.o.k x.o.s x.o.v)) := ⟨_, rfl⟩
      refine vs u3 (want_none rfl) (ex_st rfl (q213.e (j := 10) rfl) (q213.e (j := 52) rfl) (by rw [hu3]; exact Bz.st 64 (rsC (wd L x.o.k x.o.s x.o.v)) rfl info3r (oneR18 _))) rfl ?_
      have B10 : BB u3 u1.heap.size 64 (rsC (wd L x.o.k x.o.s x.o.v)) := by rw [hu3]; exact Bz.whole _ rfl
      have hu3b : Below u1.heap.size u1 u3 := by rw [hu3]; exact hu2b.trans (bel_ge (upd18 _ _ _ _) hu2b.size (Nat.le_refl _))
      clear hu3 Bz hu2b
      have B7w := B7v.later hu3b
      have y6 := hu3b.size
      have bE : Below w.heap.size w u3 := bru.trans ((hb1.trans (hu3b.mono y5)).mono (by omega))
      have q214 := (((((((Rp.nil q213.z).cons (q213.a 0 rfl)).cons (q213.a 1 rfl)).cons (q213.a 6 rfl)).cons (q213.a 7 rfl)).cons (q213.a 9 rfl)).cons (q213.a 10 rfl))
      clear q213
      refine wpList_nil ?_
      go_upto_region 12 with fail
      refine wp_region_lit ?_
      refine q214.t (.pointer (some ⟨wr.heap.size, 6, none⟩)) (ex_fa rfl (q214.e (j := 7) rfl) (faK4 _ _)) fun _ q215 => ?_;clear q214
      refine q215.t (.int .i64 x.e) (ex_ld rfl (q215.e (j := 53) rfl) (ldI18 ((B7w.cell 6).trans rfl))) fun _ q216 => ?_;clear q215
      refine q216.t (.bool (ansK x)) (ex_bin rfl (q216.e (j := 54) rfl) rfl (geqC18 _ _ _ _ _)) fun _ q217 => ?_;clear q216
      refine q217.t (.bool (ansK x)) (ex_move rfl (q217.e (j := 55) rfl)) fun _ q218 => ?_;clear q217
      refine vl (true && (ansK x == true)) (.agg (rsC (wd L x.o.k x.o.s x.o.v)).toArray) (want_g rfl rfl (q218.a 56 rfl)) (fun hc => ex_ld rfl (q218.e (j := 10) rfl) (B10.ld 64 Try.underlying64 rfl info3r)) rfl q218.z (by decide) (q218.k fun _ q219 => ?_);clear q218
      refine vl (true && (ansK x == true)) (.pointer (some ⟨wr.heap.size, 7, none⟩)) (want_g rfl rfl (q219.a 56 rfl)) (fun hc => ex_fa rfl (q219.e (j := 7) rfl) (faK5 _ _)) rfl q219.z (by decide) (q219.k fun _ q220 => ?_);clear q219
      refine vl (true && (ansK x == true)) (.agg #[.int .i64 x.r.1, .int .i64 x.r.2.1, .string x.r.2.2]) (want_g rfl rfl (q220.a 56 rfl)) (fun hc => ex_ld rfl (ev (q220.a 58 rfl) hc) B7w.ldR) rfl q220.z (by decide) (q220.k fun _ q221 => ?_);clear q220
      refine vl (true && (ansK x == true)) (.bool (!decide (wd L x.o.k x.o.s x.o.v = x.r))) (want_g rfl rfl (q221.a 56 rfl)) (fun hc => ex_bin rfl (ev (q221.a 57 rfl) hc) (ev (q221.a 59 rfl) hc) (neqR18 _ _ (wd L x.o.k x.o.s x.o.v) x.r _)) rfl q221.z (by decide) (q221.k fun _ q222 => ?_);clear q221
      refine q222.t (.bool (offK L x)) (ex_and rfl (q222.a 56 rfl) (q222.a 60 rfl) rfl) fun _ q223 => ?_;clear q222
      have q224 := ((((((Rp.nil q223.z).cons (q223.a 0 rfl)).cons (q223.a 1 rfl)).cons (q223.a 6 rfl)).cons (q223.a 9 rfl)).cons (q223.a 61 rfl))
      clear q223
      refine wpList_nil ?_
      cases hof : offK L x with
      | true =>
        have q224x := q224.a 61 rfl
        rw [hof] at q224x
        have hEE : brk l Ord = (i : Int) := by rw [hR, hRx, hof]; simp
        go_upto_region 13 with fail
        refine wp_cond_true (ev q224x rfl) ?_
        go_upto_region 13 with fail
        refine wp_region_lit ?_
        refine q224.t (.int .i64 (i : Int)) (ex_move rfl (q224.e (j := 6) rfl)) fun _ q225 => ?_;clear q224
        refine q225.t (.int .i64 (i : Int)) (ex_assign rfl (q225.e (j := 62) rfl)) fun _ q226 => ?_;clear q225
        refine wpList_nil ?_
        go_wp2
        refine bodyPost_ret (results_tmp rfl _ _ _) rfl ⟨?_, bE⟩
        rw [getD_of (q226.a 4 rfl)]
        exact ret18 hEE.symm
      | false =>
        have q224x := q224.a 61 rfl
        rw [hof] at q224x
        go_upto_region 14 with fail
        refine wp_cond_false (ev q224x rfl) ?_
        go_upto_region 14 with fail
        refine wp_region_lit ?_
        refine q224.t (.slice ad (dnK L x).length cd) (ex_move rfl (q224.e (j := 9) rfl)) fun _ q225 => ?_;clear q224
        refine q225.t (.slice ad (dnK L x).length cd) (ex_assign rfl (q225.e (j := 63) rfl)) fun _ q226 => ?_;clear q225
        refine wpList_nil ?_
        go_upto_region 4 with fail
        refine wp_region_lit ?_
        refine q226.t (.int .i64 (i : Int)) (ex_move rfl (q226.e (j := 6) rfl)) fun _ q227 => ?_;clear q226
        refine q227.t (.int .i64 ((i + 1 : Nat) : Int)) (ex_bin rfl (q227.e (j := 16) rfl) rfl (add1C _ _ i (by omega) _)) fun _ q228 => ?_;clear q227
        refine q228.t (.int .i64 ((i + 1 : Nat) : Int)) (ex_assign rfl (q228.e (j := 17) rfl)) fun _ q229 => ?_;clear q228
        have q230 := (((((Rp.nil q229.z).cons (q229.a 0 rfl)).cons (q229.a 1 rfl)).cons (q229.a 5 rfl)).cons (q229.a 6 rfl))
        clear q229
        refine wpList_nil ?_
        exact ⟨_, rfl, hit, dnK L x, ad, cd, q230, bE, hC1.later hu3b, hok.dn _ _ _, by rw [hR, hRx, hlt, hof]; rfl⟩
  · obtain rfl : i = Ord.length := by omega
    rw [bkA_end] at hR
    go_upto_region 3 with fail
    refine wp_region_lit ?_
    refine q100.t (.int .i64 (Ord.length : Int)) (ex_move rfl (q100.e (j := 6) rfl)) fun _ q101 => ?_;clear q100
    refine q101.t (.slice a2 Ord.length c2) (ex_move rfl (q101.e (j := 1) rfl)) fun _ q102 => ?_;clear q101
    refine q102.t (.int .i64 (Ord.length : Int)) (ex_lenN18 rfl rfl (q102.e (j := 13) rfl)) fun _ q103 => ?_;clear q102
    refine q103.t (.bool false) (ex_bin rfl (q103.e (j := 12) rfl) (q103.e (j := 14) rfl) (ltF _ _ hit _)) fun _ q104 => ?_;clear q103
    refine wpList_nil ?_
    go_upto_region 15 with fail
    refine wp_cond_false (q104.e (j := 15) rfl) ?_
    go_upto_region 15 with fail
    refine wp_region_lit ?_
    refine q104.t (.int .i64 ((0 : Nat) : Int)) (ex_assign rfl rfl) fun _ q105 => ?_;clear q104
    have q106 := ((((Rp.nil q105.z).cons (q105.a 0 rfl)).cons (q105.a 1 rfl)).cons (q105.a 11 rfl))
    clear q105
    refine wpList_nil ?_
    go_upto_region 16 with fail
    refine v_loop 11 l.length (fun j T u => Rp T 84 [(11, gw true (.int .i64 (j : Int))), (1, gw true (.slice a2 Ord.length c2)), (0, gw true (.slice a l.length c))] ∧ Hid (Below wr.heap.size wr u ∧ lcI l (dO l.length Ord) j = false)) (fun j T w h => h.1.a 11 rfl) ⟨q106, Below.refl _ _, by simp [lcI]⟩ ?_
    clear q106
    intro j T2 u hj hh2
    obtain ⟨q200, HJ2⟩ := hh2
    obtain ⟨hub, hla2⟩ := HJ2.out
    clear HJ2
    have y4 := hub.size
    have bru : Below w.heap.size w u := br.trans (hub.mono zr)
    by_cases hjt : j < l.length
    · obtain ⟨y, hy⟩ : ∃ y, l[j]? = some y := ⟨_, List.getElem?_eq_getElem hjt⟩
      obtain ⟨qb, ob, hqb, hqbl, hlb⟩ := (h.on bru (Nat.le_refl _)).place (by rintro rfl; simp at hy)
      have hls := lcI_succ (D := dO l.length Ord) hy
      rw [dO_at _ hjt] at hls
      go_upto_region 16 with fail
      refine wp_region_lit ?_
      refine q200.t (.int .i64 (j : Int)) (ex_move rfl (q200.e (j := 11) rfl)) fun _ q201 => ?_;clear q200
      refine q201.t (.slice a l.length c) (ex_move rfl (q201.e (j := 0) rfl)) fun _ q202 => ?_;clear q201
      refine q202.t (.int .i64 (l.length : Int)) (ex_len18 rfl rfl (q202.e (j := 65) rfl)) fun _ q203 => ?_;clear q202
      refine q203.t (.bool true) (ex_bin rfl (q203.e (j := 64) rfl) (q203.e (j := 66) rfl) (ltT _ _ hjt _)) fun _ q204 => ?_;clear q203
      refine wpList_nil ?_
      go_upto_region 18 with fail
      refine wp_cond_true (q204.e (j := 67) rfl) ?_
      go_upto_region 18 with fail
      refine wp_region_lit ?_
      refine q204.t (.slice a l.length c) (ex_move rfl (q204.e (j := 0) rfl)) fun _ q205 => ?_;clear q204
      refine q205.t (.int .i64 (j : Int)) (ex_move rfl (q205.e (j := 11) rfl)) fun _ q206 => ?_;clear q205
      refine q206.t (.pointer (some ⟨qb, ob + j * 10, none⟩)) (ex_ix rfl (q206.e (j := 70) rfl) (q206.e (j := 71) rfl) (by rw [hqb]; exact ixK qb ob l.length c j hjt _)) fun _ q207 => ?_;clear q206
      refine q207.t (.pointer (some ⟨qb, ob + j * 10 + 6, none⟩)) (ex_fa rfl (q207.e (j := 72) rfl) (faK4o _ _ _)) fun _ q208 => ?_;clear q207
      refine q208.t (.int .i64 y.e) (ex_ld rfl (q208.e (j := 73) rfl) (ldI18 (hlb j y hy 6 _ rfl))) fun _ q209 => ?_;clear q208
      refine q209.t (.bool (ansK y)) (ex_bin rfl (q209.e (j := 74) rfl) rfl (geqC18 _ _ _ _ _)) fun _ q210 => ?_;clear q209
      refine q210.t (.bool (ansK y)) (ex_move rfl (q210.e (j := 75) rfl)) fun _ q211 => ?_;clear q210
      refine vl (true && (ansK y == true)) (.slice a2 Ord.length c2) (want_g rfl rfl (q211.a 76 rfl)) (fun hc => ex_move rfl (q211.e (j := 1) rfl)) rfl q211.z (by decide) (q211.k fun _ q212 => ?_);clear q211
      refine vl (true && (ansK y == true)) (.int .i64 (j : Int)) (want_g rfl rfl (q212.a 76 rfl)) (fun hc => ex_move rfl (q212.e (j := 11) rfl)) rfl q212.z (by decide) (q212.k fun _ q213 => ?_);clear q212
      refine vcall (true && (ansK y == true)) (.bool (hasI Ord (j : Int))) (want_g rfl rfl (q213.a 76 rfl)) (fun hc => ex_call rfl (by simp only [List.map_toArray, List.map_cons, List.map_nil, (ev (q213.a 77 rfl) hc), (ev (q213.a 78 rfl) hc), evc] <;> rfl) rfl) (fun hc => (has18 Ord a2 c2 (j : Int) u (h2.on bru (Nat.le_refl _)) (by omega)).mono fun e w9 h9 => ⟨h9.1, h9.2 ▸ Below.refl _ _⟩) rfl q213.z (by decide) (q213.kc fun _ u1 hu1 q214 => ?_);clear q213
      refine vl (true && (ansK y == true)) (.bool (!hasI Ord (j : Int))) (want_g rfl rfl (q214.a 76 rfl)) (fun hc => ex_not rfl (ev (q214.a 79 rfl) hc)) rfl q214.z (by decide) (q214.k fun _ q215 => ?_);clear q214
      refine q215.t (.bool (ansK y && !hasI Ord (j : Int))) (ex_and rfl (q215.a 76 rfl) (q215.a 80 rfl) rfl) fun _ q216 => ?_;clear q215
      have q217 := (((((Rp.nil q216.z).cons (q216.a 0 rfl)).cons (q216.a 1 rfl)).cons (q216.a 11 rfl)).cons (q216.a 81 rfl))
      clear q216
      refine wpList_nil ?_
      cases hD : (ansK y && !hasI Ord (j : Int)) with
      | true =>
        have q217x := q217.a 81 rfl
        rw [hD] at q217x
        have hlk : lckK l (dO l.length Ord) = true := lck_of (j := j + 1) (by omega) (by rw [hls, hD]; simp)
        have hEE : brk l Ord = (Ord.length : Int) := by rw [hR, hlk]; simp
        go_upto_region 19 with fail
        refine wp_cond_true (ev q217x rfl) ?_
        go_upto_region 19 with fail
        refine wp_region_lit ?_
        refine q217.t (.slice a2 Ord.length c2) (ex_move rfl (q217.e (j := 1) rfl)) fun _ q218 => ?_;clear q217
        refine q218.t (.int .i64 (Ord.length : Int)) (ex_lenN18 rfl rfl (q218.e (j := 82) rfl)) fun _ q219 => ?_;clear q218
        refine q219.t (.int .i64 (Ord.length : Int)) (ex_assign rfl (q219.e (j := 83) rfl)) fun _ q220 => ?_;clear q219
        refine wpList_nil ?_
        go_wp2
        refine bodyPost_ret (results_tmp rfl _ _ _) rfl ⟨?_, bru.trans (hu1.mono (by omega))⟩
        rw [getD_of (q220.a 4 rfl)]
        exact ret18 hEE.symm
      | false =>
        have q217x := q217.a 81 rfl
        rw [hD] at q217x
        go_upto_region 17 with fail
        refine wp_cond_false (ev q217x rfl) ?_
        go_upto_region 17 with fail
        refine wp_region_lit ?_
        refine q217.t (.int .i64 (j : Int)) (ex_move rfl (q217.e (j := 11) rfl)) fun _ q218 => ?_;clear q217
        refine q218.t (.int .i64 ((j + 1 : Nat) : Int)) (ex_bin rfl (q218.e (j := 68) rfl) rfl (add1C _ _ j (by omega) _)) fun _ q219 => ?_;clear q218
        refine q219.t (.int .i64 ((j + 1 : Nat) : Int)) (ex_assign rfl (q219.e (j := 69) rfl)) fun _ q220 => ?_;clear q219
        have q221 := ((((Rp.nil q220.z).cons (q220.a 0 rfl)).cons (q220.a 1 rfl)).cons (q220.a 11 rfl))
        clear q220
        refine wpList_nil ?_
        exact ⟨_, rfl, hjt, q221, hub.trans (hu1.mono y4), by rw [hls, hla2, hD]; rfl⟩
    · obtain rfl : j = l.length := by omega
      have hlk : lckK l (dO l.length Ord) = false := hla2
      have hEE : brk l Ord = -1 := by rw [hR, hlk]; rfl
      go_upto_region 16 with fail
      refine wp_region_lit ?_
      refine q200.t (.int .i64 (l.length : Int)) (ex_move rfl (q200.e (j := 11) rfl)) fun _ q201 => ?_;clear q200
      refine q201.t (.slice a l.length c) (ex_move rfl (q201.e (j := 0) rfl)) fun _ q202 => ?_;clear q201
      refine q202.t (.int .i64 (l.length : Int)) (ex_len18 rfl rfl (q202.e (j := 65) rfl)) fun _ q203 => ?_;clear q202
      refine q203.t (.bool false) (ex_bin rfl (q203.e (j := 64) rfl) (q203.e (j := 66) rfl) (ltF _ _ hjt _)) fun _ q204 => ?_;clear q203
      refine wpList_nil ?_
      go_upto_region 20 with fail
      refine wp_cond_false (q204.e (j := 67) rfl) ?_
      go_upto_region 20 with fail
      refine wp_region_lit ?_
      refine q204.t (.int .i64 (-1)) (ex_assign rfl rfl) fun _ q205 => ?_;clear q204
      refine wpList_nil ?_
      go_wp2
      refine bodyPost_ret (results_tmp rfl _ _ _) rfl ⟨?_, bru⟩
      rw [getD_of (q205.a 4 rfl)]
      exact ret18 hEE.symm

end Go.Proofs.Ytjkleldoeojbbaa

namespace Go.Proofs.Ytjkleldoeojbbaa
open Classical
set_option linter.unusedVariables false
set_option linter.unusedSimpArgs false

/-! ### The document's search is the program's -/
theorem any_congr18 {f g : Nat → Bool} : ∀ {l : List Nat}, (∀ x ∈ l, f x = g x) → l.any f = l.any g
  | [], _ => rfl
  | x :: r, h => by
    rw [List.any_cons, List.any_cons, h x (by simp), any_congr18 (fun y hy => h y (by simp [hy]))]
theorem lck_congr {l : List Kl} {D D' : List Bool} (h : ∀ j, j < l.length → at9 D j = at9 D' j) : lckK l D = lckK l D' := by
  unfold lckK lcI
  exact any_congr18 (fun j hj => by simp only [h j (List.mem_range.1 hj)])
theorem late_congr {l : List Kl} {D D' : List Bool} {x : Kl} (h : ∀ j, j < l.length → at9 D j = at9 D' j) : lateK l D x = lateK l D' x := by
  unfold lateK laI
  exact any_congr18 (fun j hj => by simp only [h j (List.mem_range.1 hj)])
/-- A list of places played through without a break: what the ledger has then. -/
def runs (l : List Kl) : List Int → List Int → List Cl → Option (List Cl)
  | _, [], L => some L
  | ahead, p :: r, L => (l[p.toNat]?).bind fun x => if lateK l (dO l.length ahead) x || offK L x then none else runs l (ahead ++ [p]) r (dnK L x)
theorem runs_bk (l : List Kl) : ∀ (r ahead : List Int) (L L' : List Cl) (i : Nat), runs l ahead r L = some L' → bkA l i ahead r L = if lckK l (dO l.length (ahead ++ r)) then ((i + r.length : Nat) : Int) else -1
  | [], ahead, L, L', i, h => by simp [bkA]
  | p :: r, ahead, L, L', i, h => by
    unfold runs at h
    cases hx : l[p.toNat]? with
    | none => rw [hx] at h; cases h
    | some x =>
      rw [hx, Option.bind_some] at h
      rw [bkA, hx]
      dsimp only
      split at h
      · cases h
      · rename_i hc
        rw [if_neg hc, runs_bk l r _ _ L' _ h]
        simp only [List.append_assoc, List.singleton_append, List.length_cons]
        rw [show i + 1 + r.length = i + (r.length + 1) by omega]
theorem runs_snoc (l : List Kl) : ∀ (r ahead : List Int) (L : List Cl) (p : Int), runs l ahead (r ++ [p]) L = (runs l ahead r L).bind fun L' => (l[p.toNat]?).bind fun x => if lateK l (dO l.length (ahead ++ r)) x || offK L' x then none else some (dnK L' x)
  | [], ahead, L, p => by simp [runs]
  | q :: r, ahead, L, p => by
    simp only [List.cons_append, runs]
    cases hx : l[q.toNat]? with
    | none => rfl
    | some x =>
      simp only [Option.bind_some]
      split
      · rfl
      · rw [runs_snoc l r]
        simp only [List.append_assoc, List.singleton_append]
theorem bk_snoc (l : List Kl) : ∀ (r ahead : List Int) (L L' : List Cl) (i : Nat) (p : Int) (x : Kl), runs l ahead r L = some L' → l[p.toNat]? = some x → (lateK l (dO l.length (ahead ++ r)) x || offK L' x) = true → bkA l i ahead (r ++ [p]) L = ((i + r.length : Nat) : Int)
  | [], ahead, L, L', i, p, x, h, hx, hc => by
    simp [runs] at h
    subst h
    rw [List.append_nil] at hc
    simp [bkA, hx, hc]
  | q :: r, ahead, L, L', i, p, x, h, hx, hc => by
    unfold runs at h
    cases hy : l[q.toNat]? with
    | none => rw [hy] at h; cases h
    | some y =>
      rw [hy, Option.bind_some] at h
      rw [List.cons_append, bkA, hy]
      dsimp only
      split at h
      · cases h
      · rename_i hcy
        rw [if_neg hcy, bk_snoc l r _ _ L' _ p x h hx (by rw [List.append_assoc]; exact hc), List.length_cons, show i + 1 + r.length = i + (r.length + 1) by omega]
/-- The document's search. -/
def frm (l : List Kl) : Nat → List Nat → Option (List Nat)
  | 0, O => if brk l (ints O) = -1 then some O else none
  | k + 1, O => if brk l (ints O) = -1 then some O else if brk l (ints O) < (O.length : Int) then none else (List.range l.length).findSome? fun (q : Nat) => if hasI (ints O) (q : Int) then none else frm l k (O ++ [q])
theorem findSome_map {α β γ : Type} (g : α → Option β) (h : β → γ) : ∀ l : List α, l.findSome? (fun q => (g q).map h) = (l.findSome? g).map h
  | [] => rfl
  | x :: r => by
    rw [List.findSome?_cons, List.findSome?_cons]
    cases g x with
    | none => exact findSome_map g h r
    | some y => rfl
theorem ints_len (O : List Nat) : (ints O).length = O.length := by simp [ints]
theorem ints_snoc (O : List Nat) (q : Nat) : ints (O ++ [q]) = ints O ++ [(q : Int)] := by simp [ints]
theorem hasI_snoc (O : List Int) (p k : Int) : hasI (O ++ [p]) k = (hasI O k || decide (p = k)) := by simp [hasI]
theorem frm_eq (l : List Kl) : ∀ (k : Nat) (O : List Nat) (D : List Bool) (L : List Cl), l.length ≤ D.length → (∀ j, j < l.length → at9 D j = hasI (ints O) (j : Int)) → runs l [] (ints O) [] = some L → frm l k O = (srK l k D L).map (O ++ ·)
  | k, O, D, L, hD, hA, hR => by
    have hA2 : ∀ j, j < l.length → at9 D j = at9 (dO l.length (ints O)) j := fun j hj => by rw [hA j hj, dO_at _ hj]
    have hb : brk l (ints O) = if lckK l D then (O.length : Int) else -1 := by
      unfold brk
      rw [runs_bk l (ints O) [] [] L 0 hR, lck_congr hA2, List.nil_append, Nat.zero_add, ints_len]
    cases hk : lckK l D with
    | false =>
      rw [hk] at hb
      cases k <;> simp [frm, srK, hk, hb]
    | true =>
      rw [hk] at hb
      have hne : ¬ ((O.length : Int) = -1) := by omega
      simp only [if_true] at hb
      cases k with
      | zero => simp [frm, srK, hk, hb, hne]
      | succ k =>
        rw [frm, srK, hb, if_neg hne, if_neg (by omega), if_pos hk, ← findSome_map]
        refine findSome_congr (fun q hq => ?_)
        have hq := List.mem_range.1 hq
        rw [List.getElem?_eq_getElem hq, Option.bind_some]
        cases hh : hasI (ints O) (q : Int) with
        | true =>
          have h1 : at9 D q = true := by rw [hA q hq, hh]
          simp [nxtK, h1]
        | false =>
          have h1 : at9 D q = false := by rw [hA q hq, hh]
          have hx : l[(q : Int).toNat]? = some l[q] := by rw [Int.toNat_natCast, List.getElem?_eq_getElem hq]
          have hlc : lateK l (dO l.length ([] ++ ints O)) l[q] = lateK l D l[q] := by rw [List.nil_append]; exact (late_congr hA2).symm
          simp only [Bool.false_eq_true, if_false]
          cases hc : (lateK l D l[q] || offK L l[q]) with
          | true =>
            have hn : nxtK l D L q l[q] = false := by
              unfold nxtK
              rw [h1]
              cases h2 : offK L l[q] with
              | true => rfl
              | false => rw [h2, Bool.or_false] at hc; rw [hc]; rfl
            have hb2 : brk l (ints (O ++ [q])) = (O.length : Int) := by
              unfold brk
              rw [ints_snoc, bk_snoc l (ints O) [] [] L 0 (q : Int) l[q] hR hx (by rw [hlc]; exact hc), Nat.zero_add, ints_len]
            rw [hn]
            cases k with
            | zero => simp [frm, hb2, hne]
            | succ k =>
              rw [frm, hb2, if_neg hne, if_pos (by simp; omega)]
              rfl
          | false =>
            have hn : nxtK l D L q l[q] = true := by
              unfold nxtK
              rw [Bool.or_eq_false_iff] at hc
              rw [h1, hc.1, hc.2]
              rfl
            have hR2 : runs l [] (ints (O ++ [q])) [] = some (dnK L l[q]) := by
              rw [ints_snoc, runs_snoc, hR, Option.bind_some, hx, Option.bind_some, hlc, hc]
              rfl
            rw [hn, frm_eq l k (O ++ [q]) (D.set q true) (dnK L l[q]) (by simpa using hD) (fun j hj => by
              rw [at9_set D q j (by omega), ints_snoc, hasI_snoc, hA j hj, Bool.or_comm]
              congr 1
              by_cases e : j = q
              · subst e; simp
              · have : ¬ ((q : Int) = (j : Int)) := by omega
                simp [e, this]) hR2]
            cases srK l k (D.set q true) (dnK L l[q]) <;> simp
theorem frm_lst (l : List Kl) (h8 : l.length ≤ 8) : frm l l.length [] = lst l := by
  rw [frm_eq l l.length [] D0 [] h8 (fun j hj => by
    have : j < 8 := by omega
    match j, this with
    | 0, _ => rfl
    | 1, _ => rfl
    | 2, _ => rfl
    | 3, _ => rfl
    | 4, _ => rfl
    | 5, _ => rfl
    | 6, _ => rfl
    | 7, _ => rfl) rfl]
  unfold lst
  cases srK l l.length D0 [] <;> simp

end Go.Proofs.Ytjkleldoeojbbaa

namespace Go.Proofs.Ytjkleldoeojbbaa
open Go.RowKit Go.Maps
open Classical
set_option linter.unusedVariables false
set_option linter.unusedSimpArgs false

theorem neqSe (x y : Operand) (a : Int) (w : World) : (do eqGuard .neq 3 x y (.int .i64 a) (.int .i64 a); binOp .neq 3 (.int .i64 a) (.int .i64 a) : Sem Value).run Try.prog w = .ok (.bool false) w := by
  rw [neqC]
  simp
theorem results3_18 {fn : Func} {i j k : Tmp} {x y z : Value} {tmps : Array Value} {w : World} (h : fn.results = #[.tmp i, .tmp j, .tmp k]) (hi : tmps[i]? = some (gw true x)) (hj : tmps[j]? = some (gw true y)) (hk : tmps[k]? = some (gw true z)) : (results fn tmps).run Try.prog w = .ok (.tuple #[x, y, z]) w := by
  rw [results_tmp3 h, getD_of hi, getD_of hj, getD_of hk]
  rfl
set_option maxRecDepth 100000 in
set_option maxHeartbeats 2000000 in
theorem sameInts18 (L : List Int) (a a2 : Option Addr) (c c2 : Nat) (w : World) (h : SlY yN w a L.length c L) (h2 : SlY yN w a2 L.length c2 L) (hbn : L.length ≤ 140737488355328) :
    Calls Try.prog 26 #[.slice a L.length c, .slice a2 L.length c2] w fun e w' => e = .returned (.bool true) ∧ Below w.heap.size w w' := by
  go_enter Try.func26, Try.ntmps26
  go_upto_region 0 with fail
  refine wp_region_lit ?_
  refine vl_gen (fun T => Rp T 26 [(1, gw true (.slice a2 L.length c2)), (0, gw true (.slice a L.length c))]) (((Rp.nil rfl).cons rfl).cons rfl) (fun Z0 q0 => ?_)
  refine q0.t (.bool false) (ex_assign rfl rfl) fun _ q1 => ?_;clear q0
  refine wpList_nil ?_
  go_upto_region 1 with fail
  refine wp_region_lit ?_
  refine q1.t (.slice a L.length c) (ex_move rfl (q1.e (j := 0) rfl)) fun _ q2 => ?_;clear q1
  refine q2.t (.int .i64 (L.length : Int)) (ex_lenN18 rfl rfl (q2.e (j := 6) rfl)) fun _ q3 => ?_;clear q2
  refine q3.t (.slice a2 L.length c2) (ex_move rfl (q3.e (j := 1) rfl)) fun _ q4 => ?_;clear q3
  refine q4.t (.int .i64 (L.length : Int)) (ex_lenN18 rfl rfl (q4.e (j := 8) rfl)) fun _ q5 => ?_;clear q4
  refine q5.t (.bool false) (ex_bin rfl (q5.e (j := 7) rfl) (q5.e (j := 9) rfl) (neqNn _ _ _ _)) fun _ q6 => ?_;clear q5
  refine wpList_nil ?_
  go_upto_region 3 with fail
  refine wp_cond_false (q6.e (j := 10) rfl) ?_
  go_upto_region 3 with fail
  refine wp_region_lit ?_
  refine q6.t (.int .i64 ((0 : Nat) : Int)) (ex_assign rfl rfl) fun _ q7 => ?_;clear q6
  have q8 := ((((Rp.nil q7.z).cons (q7.a 0 rfl)).cons (q7.a 1 rfl)).cons (q7.a 5 rfl))
  clear q7
  refine wpList_nil ?_
  go_upto_region 4 with fail
  refine v_loop 5 L.length (fun j T wr => Rp T 26 [(5, gw true (.int .i64 (j : Int))), (1, gw true (.slice a2 L.length c2)), (0, gw true (.slice a L.length c))] ∧ Hid (Below w.heap.size w wr)) (fun j T w h => h.1.a 5 rfl) ⟨q8, Below.refl _ _⟩ ?_
  clear q8
  intro j T wr hj hh
  obtain ⟨q100, HJ⟩ := hh
  have br := HJ.out
  clear HJ
  by_cases hit : j < L.length
  · obtain ⟨x, hx⟩ : ∃ x, L[j]? = some x := ⟨_, List.getElem?_eq_getElem hit⟩
    obtain ⟨qa, oa, hqa, hqal, hca⟩ := (h.on br (Nat.le_refl _)).nm hx
    obtain ⟨qb, ob, hqb, hqbl, hcb⟩ := (h2.on br (Nat.le_refl _)).nm hx
    go_upto_region 4 with fail
    refine wp_region_lit ?_
    refine q100.t (.int .i64 (j : Int)) (ex_move rfl (q100.e (j := 5) rfl)) fun _ q101 => ?_;clear q100
    refine q101.t (.slice a L.length c) (ex_move rfl (q101.e (j := 0) rfl)) fun _ q102 => ?_;clear q101
    refine q102.t (.int .i64 (L.length : Int)) (ex_lenN18 rfl rfl (q102.e (j := 12) rfl)) fun _ q103 => ?_;clear q102
    refine q103.t (.bool true) (ex_bin rfl (q103.e (j := 11) rfl) (q103.e (j := 13) rfl) (ltT _ _ hit _)) fun _ q104 => ?_;clear q103
    refine wpList_nil ?_
    go_upto_region 6 with fail
    refine wp_cond_true (q104.e (j := 14) rfl) ?_
    go_upto_region 6 with fail
    refine vq_start (C := fun v => Below wr.heap.size wr v) (by kernel_rfl) (by kernel_rfl) (Below.refl _ _).drew ?_
    refine q104.q (.slice a L.length c) (fun v hv => ex_move rfl (q104.e (j := 0) rfl)) fun _ q105 => ?_;clear q104
    refine q105.q (.int .i64 (j : Int)) (fun v hv => ex_move rfl (q105.e (j := 5) rfl)) fun _ q106 => ?_;clear q105
    refine q106.q (.pointer (some ⟨qa, oa + j, none⟩)) (fun v hv => ex_ix rfl (q106.e (j := 17) rfl) (q106.e (j := 18) rfl) (by rw [hqa]; exact ixN18 qa oa L.length c j hit _)) fun _ q107 => ?_;clear q106
    refine q107.q (.int .i64 x) (fun v hv => ex_ld rfl (q107.e (j := 19) rfl) (ldI18 ((hv.cell (p := ⟨qa, oa + j, none⟩) hqal).trans hca))) fun _ q108 => ?_;clear q107
    refine q108.q (.slice a2 L.length c2) (fun v hv => ex_move rfl (q108.e (j := 1) rfl)) fun _ q109 => ?_;clear q108
    refine q109.q (.int .i64 (j : Int)) (fun v hv => ex_move rfl (q109.e (j := 5) rfl)) fun _ q110 => ?_;clear q109
    refine q110.q (.pointer (some ⟨qb, ob + j, none⟩)) (fun v hv => ex_ix rfl (q110.e (j := 21) rfl) (q110.e (j := 22) rfl) (by rw [hqb]; exact ixN18 qb ob L.length c2 j hit _)) fun _ q111 => ?_;clear q110
    refine q111.q (.int .i64 x) (fun v hv => ex_ld rfl (q111.e (j := 23) rfl) (ldI18 ((hv.cell (p := ⟨qb, ob + j, none⟩) hqbl).trans hcb))) fun _ q112 => ?_;clear q111
    refine q112.q (.bool false) (fun v hv => ex_bin rfl (q112.e (j := 20) rfl) (q112.e (j := 24) rfl) (neqSe _ _ x _)) fun _ q113 => ?_;clear q112
    refine vq_nil (fun r1 hr1 => ?_)
    have q114 := (((((Rp.nil q113.z).cons (q113.a 0 rfl)).cons (q113.a 1 rfl)).cons (q113.a 5 rfl)).cons (q113.a 25 rfl))
    clear q113
    go_upto_region 5 with fail
    refine wp_cond_false (q114.e (j := 25) rfl) ?_
    go_upto_region 5 with fail
    refine wp_region_lit ?_
    refine q114.t (.int .i64 (j : Int)) (ex_move rfl (q114.e (j := 5) rfl)) fun _ q115 => ?_;clear q114
    refine q115.t (.int .i64 ((j + 1 : Nat) : Int)) (ex_bin rfl (q115.e (j := 15) rfl) rfl (add1C _ _ j (by omega) _)) fun _ q116 => ?_;clear q115
    refine q116.t (.int .i64 ((j + 1 : Nat) : Int)) (ex_assign rfl (q116.e (j := 16) rfl)) fun _ q117 => ?_;clear q116
    have q118 := ((((Rp.nil q117.z).cons (q117.a 0 rfl)).cons (q117.a 1 rfl)).cons (q117.a 5 rfl))
    clear q117
    refine wpList_nil ?_
    exact ⟨_, rfl, hit, q118, br.trans (hr1.mono br.size)⟩
  · obtain rfl : j = L.length := by omega
    go_upto_region 4 with fail
    refine wp_region_lit ?_
    refine q100.t (.int .i64 (L.length : Int)) (ex_move rfl (q100.e (j := 5) rfl)) fun _ q101 => ?_;clear q100
    refine q101.t (.slice a L.length c) (ex_move rfl (q101.e (j := 0) rfl)) fun _ q102 => ?_;clear q101
    refine q102.t (.int .i64 (L.length : Int)) (ex_lenN18 rfl rfl (q102.e (j := 12) rfl)) fun _ q103 => ?_;clear q102
    refine q103.t (.bool false) (ex_bin rfl (q103.e (j := 11) rfl) (q103.e (j := 13) rfl) (ltF _ _ hit _)) fun _ q104 => ?_;clear q103
    refine wpList_nil ?_
    go_upto_region 8 with fail
    refine wp_cond_false (q104.e (j := 14) rfl) ?_
    go_upto_region 8 with fail
    refine wp_region_lit ?_
    refine q104.t (.bool true) (ex_assign rfl rfl) fun _ q105 => ?_;clear q104
    refine wpList_nil ?_
    go_wp2
    refine bodyPost_ret (results_tmp rfl _ _ _) rfl ⟨?_, br⟩
    rw [getD_of (q105.a 4 rfl)]
    rfl
/-- What the document's search hands back. -/
def FP (l : List Kl) (s : Option (List Nat)) (w : World) (e : Ending) (w' : World) : Prop := ∃ a' n' c', e = .returned (.tuple #[.slice a' n' c', .bool s.isSome]) ∧ SlY yN w' a' n' c' (ints (s.getD [])) ∧ Below w.heap.size w w'
def FC (l : List Kl) (k : Nat) : Prop := ∀ (a : Option Addr) (c : Nat) (O : List Nat) (a2 : Option Addr) (c2 : Nat) (w : World), SlY yK w a l.length c l → SlY yN w a2 O.length c2 (ints O) → cU (dO l.length (ints O)) l.length ≤ k → O.length + k ≤ 8 → plc l.length (ints O) →
  Calls Try.prog 53 #[.slice a l.length c, .slice a2 O.length c2] w fun e w' => FP l (frm l k O) w e w'
/-- The places from j on. -/
def frF (l : List Kl) (k : Nat) (O : List Nat) (j : Nat) : Option (List Nat) := ((List.range l.length).drop j).findSome? fun (q : Nat) => if hasI (ints O) (q : Int) then none else frm l k (O ++ [q])
theorem frF_at (l : List Kl) (k : Nat) (O : List Nat) {j : Nat} (hj : j < l.length) : frF l k O j = if hasI (ints O) (j : Int) then frF l k O (j + 1) else (match frm l k (O ++ [j]) with | some s => some s | none => frF l k O (j + 1)) := by
  have e : (List.range l.length).drop j = j :: (List.range l.length).drop (j + 1) := by
    rw [List.drop_eq_getElem_cons (by simpa using hj)]
    simp
  unfold frF
  rw [e, List.findSome?_cons]
  cases hasI (ints O) (j : Int) with
  | true => rfl
  | false =>
    simp only [Bool.false_eq_true, if_false]
    cases frm l k (O ++ [j]) <;> rfl
/-- The same, whatever is left. -/
def frG (l : List Kl) (k : Nat) (O : List Nat) (j : Nat) : Option (List Nat) := match k with
  | 0 => none
  | k1 + 1 => frF l k1 O j
theorem frG_zero {l : List Kl} {k : Nat} {O : List Nat} (h1 : ¬ brk l (ints O) = -1) (h2 : ¬ brk l (ints O) < (O.length : Int)) : frm l k O = frG l k O 0 := by
  cases k with
  | zero => simp [frm, frG, h1]
  | succ k => rw [frm, if_neg h1, if_neg h2]; rfl
theorem frF_end (l : List Kl) (k : Nat) (O : List Nat) : frF l k O l.length = none := by simp [frF, List.drop_of_length_le]
theorem dO_len (n : Nat) (O : List Int) : (dO n O).length = n := by simp [dO]
theorem dO_snoc (n : Nat) (O : List Nat) (q : Nat) (hq : q < n) : dO n (ints (O ++ [q])) = (dO n (ints O)).set q true := by
  apply List.ext_getElem?
  intro j
  by_cases hj : j < n
  · have h1 : (dO n (ints (O ++ [q])))[j]? = some (hasI (ints (O ++ [q])) (j : Int)) := by simp [dO, hj]
    have h2 : (dO n (ints O))[j]? = some (hasI (ints O) (j : Int)) := by simp [dO, hj]
    rw [h1, List.getElem?_set, ints_snoc, hasI_snoc]
    by_cases e : q = j
    · subst e
      simp [dO_len, hq]
    · have : ¬ ((q : Int) = (j : Int)) := by omega
      rw [if_neg e, h2]
      simp [this]
  · rw [List.getElem?_eq_none (by rw [dO_len]; omega), List.getElem?_eq_none (by rw [List.length_set, dO_len]; omega)]
set_option maxRecDepth 100000 in
set_option maxHeartbeats 2000000 in
theorem from_step {l : List Kl} (hl8 : l.length ≤ 8) (hfx : ∀ x ∈ l, x.fits) (k : Nat) (ih : ∀ k', k' + 1 = k → FC l k') : FC l k := by
  intro a c O a2 c2 w h h2 hU hO8 hpl
  have hlo := ints_len O
  go_enter Try.func53, Try.ntmps53
  go_upto_region 0 with fail
  refine wp_region_lit ?_
  refine vl_gen (fun T => Rp T 44 [(1, gw true (.slice a2 O.length c2)), (0, gw true (.slice a l.length c))]) (((Rp.nil rfl).cons rfl).cons rfl) (fun Z0 q0 => ?_)
  refine q0.t (.slice none 0 0) (ex_assign rfl rfl) fun _ q1 => ?_;clear q0
  refine q1.t (.bool false) (ex_assign rfl rfl) fun _ q2 => ?_;clear q1
  refine wpList_nil ?_
  go_upto_region 1 with fail
  refine wp_region_lit ?_
  refine q2.t (.slice a l.length c) (ex_move rfl (q2.e (j := 0) rfl)) fun _ q3 => ?_;clear q2
  refine q3.t (.slice a2 O.length c2) (ex_move rfl (q3.e (j := 1) rfl)) fun _ q4 => ?_;clear q3
  refine vcallP (want_none rfl) (ex_call rfl (by simp only [List.map_toArray, List.map_cons, List.map_nil, (q4.e (j := 11) rfl), (q4.e (j := 12) rfl), evc] <;> rfl) rfl) (by rw [← hlo]; exact breaks18 l a c (ints O) a2 c2 w h (by rw [hlo]; exact h2) hfx hpl (by omega) (by omega)) rfl q4.z (by decide) ?_
  rintro e w1 ⟨rfl, b1⟩
  refine ⟨_, rfl, q4.k fun _ q5 => ?_⟩;clear q4
  have z1 := b1.size
  refine q5.t (.int .i64 (brk l (ints O))) (ex_assign rfl (q5.e (j := 13) rfl)) fun _ q6 => ?_;clear q5
  refine wpList_nil ?_
  go_upto_region 2 with fail
  refine wp_region_lit ?_
  refine q6.t (.int .i64 (brk l (ints O))) (ex_move rfl (q6.e (j := 6) rfl)) fun _ q7 => ?_;clear q6
  refine q7.t (.bool (decide (brk l (ints O) = -1))) (ex_bin rfl (q7.e (j := 14) rfl) rfl (eqlC _ _ _ _ _)) fun _ q8 => ?_;clear q7
  have q9 := (((((Rp.nil q8.z).cons (q8.a 0 rfl)).cons (q8.a 1 rfl)).cons (q8.a 6 rfl)).cons (q8.a 15 rfl))
  clear q8
  refine wpList_nil ?_
  by_cases hb1 : brk l (ints O) = -1
  · have hE : frm l k O = some O := by cases k <;> simp [frm, hb1]
    have q9x := q9.a 15 rfl
    rw [decide_eq_true hb1] at q9x
    go_upto_region 3 with fail
    refine wp_cond_true (ev q9x rfl) ?_
    go_upto_region 3 with fail
    refine wp_region_lit ?_
    refine q9.t (.slice a2 O.length c2) (ex_move rfl (q9.e (j := 1) rfl)) fun _ q10 => ?_;clear q9
    refine q10.t (.slice a2 O.length c2) (ex_assign rfl (q10.e (j := 16) rfl)) fun _ q11 => ?_;clear q10
    refine q11.t (.bool true) (ex_assign rfl rfl) fun _ q12 => ?_;clear q11
    refine wpList_nil ?_
    go_wp2
    exact bodyPost_ret (results2_18 rfl (q12.a 4 rfl) (q12.a 5 rfl)) rfl ⟨a2, O.length, c2, by rw [hE]; rfl, by rw [hE]; exact h2.later b1, b1⟩
  · have q9x := q9.a 15 rfl
    rw [decide_eq_false hb1] at q9x
    go_upto_region 4 with fail
    refine wp_cond_false (ev q9x rfl) ?_
    clear q9x
    go_upto_region 4 with fail
    refine wp_region_lit ?_
    refine q9.t (.int .i64 (brk l (ints O))) (ex_move rfl (q9.e (j := 6) rfl)) fun _ q10 => ?_;clear q9
    refine q10.t (.slice a2 O.length c2) (ex_move rfl (q10.e (j := 1) rfl)) fun _ q11 => ?_;clear q10
    refine q11.t (.int .i64 (O.length : Int)) (ex_lenN18 rfl rfl (q11.e (j := 18) rfl)) fun _ q12 => ?_;clear q11
    refine q12.t (.bool (decide (brk l (ints O) < (O.length : Int)))) (ex_bin rfl (q12.e (j := 17) rfl) (q12.e (j := 19) rfl) (lssC _ _ _ _ _)) fun _ q13 => ?_;clear q12
    have q14 := ((((Rp.nil q13.z).cons (q13.a 0 rfl)).cons (q13.a 1 rfl)).cons (q13.a 20 rfl))
    clear q13
    refine wpList_nil ?_
    by_cases hb2 : brk l (ints O) < (O.length : Int)
    · have hE : frm l k O = none := by cases k <;> simp [frm, hb1, hb2]
      have q14x := q14.a 20 rfl
      rw [decide_eq_true hb2] at q14x
      go_upto_region 5 with fail
      refine wp_cond_true (ev q14x rfl) ?_
      go_upto_region 5 with fail
      refine wp_region_lit ?_
      refine q14.t (.slice none 0 0) (ex_assign rfl rfl) fun _ q15 => ?_;clear q14
      refine q15.t (.bool false) (ex_assign rfl rfl) fun _ q16 => ?_;clear q15
      refine wpList_nil ?_
      go_wp2
      exact bodyPost_ret (results2_18 rfl (q16.a 4 rfl) (q16.a 5 rfl)) rfl ⟨none, 0, 0, by rw [hE]; rfl, by rw [hE]; exact ⟨rfl, Nat.le_refl _, by unfold maxLen; omega, fun _ => ⟨rfl, rfl⟩, fun x hx => by cases hx⟩, b1⟩
    · have q14x := q14.a 20 rfl
      rw [decide_eq_false hb2] at q14x
      go_upto_region 6 with fail
      refine wp_cond_false (ev q14x rfl) ?_
      clear q14x
      go_upto_region 6 with fail
      refine wp_region_lit ?_
      refine q14.t (.int .i64 ((0 : Nat) : Int)) (ex_assign rfl rfl) fun _ q15 => ?_;clear q14
      have q16 := ((((Rp.nil q15.z).cons (q15.a 0 rfl)).cons (q15.a 1 rfl)).cons (q15.a 7 rfl))
      clear q15
      refine wpList_nil ?_
      go_upto_region 7 with fail
      refine v_loop 7 l.length (fun j T wr => Rp T 44 [(7, gw true (.int .i64 (j : Int))), (1, gw true (.slice a2 O.length c2)), (0, gw true (.slice a l.length c))] ∧ Hid (Below w.heap.size w wr ∧ frm l k O = frG l k O j)) (fun j T w h => h.1.a 7 rfl) ⟨q16, b1, frG_zero hb1 (by omega)⟩ ?_
      clear q16
      intro j T wr hj hh
      obtain ⟨q100, HJ⟩ := hh
      obtain ⟨br, hR⟩ := HJ.out
      clear HJ
      have zr := br.size
      by_cases hit : j < l.length
      · have hD := dO_at (ints O) hit
        go_upto_region 7 with fail
        refine wp_region_lit ?_
        refine q100.t (.int .i64 (j : Int)) (ex_move rfl (q100.e (j := 7) rfl)) fun _ q101 => ?_;clear q100
        refine q101.t (.slice a l.length c) (ex_move rfl (q101.e (j := 0) rfl)) fun _ q102 => ?_;clear q101
        refine q102.t (.int .i64 (l.length : Int)) (ex_len18 rfl rfl (q102.e (j := 22) rfl)) fun _ q103 => ?_;clear q102
        refine q103.t (.bool true) (ex_bin rfl (q103.e (j := 21) rfl) (q103.e (j := 23) rfl) (ltT _ _ hit _)) fun _ q104 => ?_;clear q103
        refine wpList_nil ?_
        go_upto_region 9 with fail
        refine wp_cond_true (q104.e (j := 24) rfl) ?_
        go_upto_region 9 with fail
        refine wp_region_lit ?_
        refine q104.t (.slice a2 O.length c2) (ex_move rfl (q104.e (j := 1) rfl)) fun _ q105 => ?_;clear q104
        refine q105.t (.int .i64 (j : Int)) (ex_move rfl (q105.e (j := 7) rfl)) fun _ q106 => ?_;clear q105
        refine vcallP (want_none rfl) (ex_call rfl (by simp only [List.map_toArray, List.map_cons, List.map_nil, (q106.e (j := 27) rfl), (q106.e (j := 28) rfl), evc] <;> rfl) rfl) (by rw [← hlo]; exact has18 (ints O) a2 c2 (j : Int) wr (by rw [hlo]; exact h2.on br (Nat.le_refl _)) (by omega)) rfl q106.z (by decide) ?_
        rintro e w2 ⟨rfl, hw2e⟩
        refine ⟨_, rfl, q106.k fun _ q107 => ?_⟩;clear q106
        rw [hw2e]
        clear hw2e w2
        have q108 := (((((Rp.nil q107.z).cons (q107.a 0 rfl)).cons (q107.a 1 rfl)).cons (q107.a 7 rfl)).cons (q107.a 29 rfl))
        clear q107
        refine wpList_nil ?_
        cases hh : hasI (ints O) (j : Int) with
        | true =>
          have q108x := q108.a 29 rfl
          rw [hh] at q108x
          go_upto_region 8 with fail
          refine wp_cond_true (ev q108x rfl) ?_
          clear q108x
          go_upto_region 8 with fail
          refine wp_region_lit ?_
          refine q108.t (.int .i64 (j : Int)) (ex_move rfl (q108.e (j := 7) rfl)) fun _ q109 => ?_;clear q108
          refine q109.t (.int .i64 ((j + 1 : Nat) : Int)) (ex_bin rfl (q109.e (j := 25) rfl) rfl (add1C _ _ j (by omega) _)) fun _ q110 => ?_;clear q109
          refine q110.t (.int .i64 ((j + 1 : Nat) : Int)) (ex_assign rfl (q110.e (j := 26) rfl)) fun _ q111 => ?_;clear q110
          have q112 := ((((Rp.nil q111.z).cons (q111.a 0 rfl)).cons (q111.a 1 rfl)).cons (q111.a 7 rfl))
          clear q111
          refine wpList_nil ?_
          exact ⟨_, rfl, hit, q112, br, by rw [hR]; cases k; rfl; show frF l _ O j = frF l _ O (j + 1); rw [frF_at l _ O hit, hh]; rfl⟩
        | false =>
          have q108x := q108.a 29 rfl
          rw [hh] at q108x hD
          obtain ⟨k, rfl⟩ : ∃ k1, k = k1 + 1 := by
            cases k with
            | zero => rw [cU_zero _ _ (by omega) j hit] at hD; cases hD
            | succ k => exact ⟨k, rfl⟩
          have IH := ih k rfl
          replace hR : frm l (k + 1) O = frF l k O j := hR
          have hF := frF_at l k O hit
          rw [hh] at hF
          simp only [Bool.false_eq_true, if_false] at hF
          go_upto_region 10 with fail
          refine wp_cond_false (ev q108x rfl) ?_
          clear q108x
          go_upto_region 10 with fail
          refine wp_region_lit ?_
          refine q108.t (.slice none 0 0) (ex_assign rfl rfl) fun _ q109 => ?_;clear q108
          refine wpList_nil ?_
          go_upto_region 11 with fail
          refine wp_region_lit ?_
          refine q109.t (.slice none 0 0) (ex_move rfl (q109.e (j := 8) rfl)) fun _ q110 => ?_;clear q109
          refine q110.t (.slice a2 O.length c2) (ex_move rfl (q110.e (j := 1) rfl)) fun _ q111 => ?_;clear q110
          obtain ⟨v3, w3, ha3, o3, g3, _⟩ := run_appY kN wr 50 wr.heap.size [] (.slice none 0 0) a2 O.length c2 (ints O) (h2.on br (Nat.le_refl _)) (OwnY.nil _ _ _) (Nat.le_refl _) (by unfold maxLen; simp; omega) (by show (([] : List Int).length + O.length) * 8 ≤ _; simp; omega)
          rw [List.nil_append] at o3
          have b3 : Below wr.heap.size wr w3 := (Below.refl _ _).grown g3 (Nat.le_refl _) (fun k hk => by cases hk)
          have z3 := b3.size
          refine vw (v3) w3 (want_none rfl) (ex_app18 rfl (q111.e (j := 30) rfl) (q111.e (j := 31) rfl) ha3) rfl q111.z (by decide) (q111.k fun _ q112 => ?_);clear q111
          refine q112.t (v3) (ex_assign rfl (q112.e (j := 32) rfl)) fun _ q113 => ?_;clear q112
          refine wpList_nil ?_
          go_upto_region 12 with fail
          refine wp_region_lit ?_
          refine q113.t (.slice a l.length c) (ex_move rfl (q113.e (j := 0) rfl)) fun _ q114 => ?_;clear q113
          refine q114.t (v3) (ex_move rfl (q114.e (j := 8) rfl)) fun _ q115 => ?_;clear q114
          refine q115.t (.int .i64 (j : Int)) (ex_move rfl (q115.e (j := 7) rfl)) fun _ q116 => ?_;clear q115
          obtain ⟨w4, hw4⟩ : ∃ y, y = w3.alloc (.cells #[.int .i64 (j : Int)] 3) := ⟨_, rfl⟩
          refine vw (.slice (some ⟨w3.heap.size, 0, none⟩) 1 1) w4 (want_none rfl) (ex_bs18 rfl (q116.e (j := 36) rfl) (by rw [hw4]; exact bsN _ _)) rfl q116.z (by decide) (q116.k fun _ q117 => ?_);clear q116
          have s4 : SlY yN w4 (some ⟨w3.heap.size, 0, none⟩) 1 1 [(j : Int)] := by rw [hw4]; exact sl_box (Y := yN) w3 (j : Int) 3
          have b4 : Below w3.heap.size w3 w4 := by rw [hw4]; exact (Below.refl _ _).alloc (Nat.le_refl _) _
          clear hw4
          have z4 := b4.size
          obtain ⟨v5, w5, ha5, o5, g5, _⟩ := run_appY kN w4 50 wr.heap.size (ints O) v3 _ 1 1 [(j : Int)] s4 (o3.grow b4) (by omega) (by unfold maxLen; omega) (by show ((ints O).length + 1) * 8 ≤ _; omega)
          have b5 : Below wr.heap.size wr w5 := (b3.trans (b4.mono z3)).grown g5 (by omega) (fun k hk => (o3.blk k hk).1)
          rw [← ints_snoc] at o5
          obtain ⟨a5, c5, hv5, sl5, _⟩ := o5.sl kN
          have hl5 : (ints (O ++ [j])).length = (O ++ [j]).length := ints_len _
          rw [hl5] at hv5 sl5
          have brw : Below w.heap.size w w5 := br.trans (b5.mono zr)
          refine vw (v5) w5 (want_none rfl) (ex_app18 rfl (q117.e (j := 35) rfl) (q117.e (j := 37) rfl) ha5) rfl q117.z (by decide) (q117.k fun _ q118 => ?_);clear q117
          have hcu := cU_set (dO l.length (ints O)) j (by rw [dO_len]; exact hit) (by rw [dO_at _ hit]; exact hh) l.length
          rw [if_pos hit, ← dO_snoc _ _ _ hit] at hcu
          have hpl2 : plc l.length (ints (O ++ [j])) := fun p hp => by
            rw [ints_snoc] at hp
            rcases List.mem_append.1 hp with hp | hp
            · exact hpl p hp
            · have := List.mem_singleton.1 hp; omega
          refine vcallP (want_none rfl) (ex_call rfl (by simp only [List.map_toArray, List.map_cons, List.map_nil, (q118.e (j := 34) rfl), (q118.e (j := 38) rfl), evc] <;> rfl) rfl) (by rw [hv5]; exact IH a c (O ++ [j]) a5 c5 w5 (h.on brw (Nat.le_refl _)) sl5 (by omega) (by rw [List.length_append]; simp; omega) hpl2) rfl q118.z (by decide) ?_
          rintro e w6 ⟨a6, n6, c6, rfl, sl6, b6⟩
          refine ⟨_, rfl, q118.k fun _ q119 => ?_⟩;clear q118
          have brw6 : Below w.heap.size w w6 := brw.trans (b6.mono brw.size)
          refine q119.t (.tuple #[.slice a6 n6 c6, .bool (frm l k (O ++ [j])).isSome]) (ex_move rfl (q119.e (j := 39) rfl)) fun _ q120 => ?_;clear q119
          refine q120.t (.slice a6 n6 c6) (ex_ext18 rfl (q120.e (j := 33) rfl) rfl) fun _ q121 => ?_;clear q120
          refine q121.t (.bool (frm l k (O ++ [j])).isSome) (ex_ext18 rfl (q121.e (j := 33) rfl) rfl) fun _ q122 => ?_;clear q121
          refine q122.t (.slice a6 n6 c6) (ex_assign rfl (q122.e (j := 40) rfl)) fun _ q123 => ?_;clear q122
          refine q123.t (.bool (frm l k (O ++ [j])).isSome) (ex_assign rfl (q123.e (j := 41) rfl)) fun _ q124 => ?_;clear q123
          refine wpList_nil ?_
          go_upto_region 13 with fail
          refine wp_region_lit ?_
          refine q124.t (.bool (frm l k (O ++ [j])).isSome) (ex_move rfl (q124.e (j := 10) rfl)) fun _ q125 => ?_;clear q124
          have q126 := ((((((Rp.nil q125.z).cons (q125.a 0 rfl)).cons (q125.a 1 rfl)).cons (q125.a 7 rfl)).cons (q125.a 9 rfl)).cons (q125.a 42 rfl))
          clear q125
          refine wpList_nil ?_
          cases hfr : frm l k (O ++ [j]) with
          | some sx =>
            have q126x := q126.a 42 rfl
            rw [hfr] at q126x sl6
            have hE : frm l (k + 1) O = some sx := by rw [hR, hF, hfr]
            go_upto_region 14 with fail
            refine wp_cond_true (ev q126x rfl) ?_
            go_upto_region 14 with fail
            refine wp_region_lit ?_
            refine q126.t (.slice a6 n6 c6) (ex_move rfl (q126.e (j := 9) rfl)) fun _ q127 => ?_;clear q126
            refine q127.t (.slice a6 n6 c6) (ex_assign rfl (q127.e (j := 43) rfl)) fun _ q128 => ?_;clear q127
            refine q128.t (.bool true) (ex_assign rfl rfl) fun _ q129 => ?_;clear q128
            refine wpList_nil ?_
            go_wp2
            exact bodyPost_ret (results2_18 rfl (q129.a 4 rfl) (q129.a 5 rfl)) rfl ⟨a6, n6, c6, by rw [hE]; rfl, by rw [hE]; exact sl6, brw6⟩
          | none =>
            have q126x := q126.a 42 rfl
            rw [hfr] at q126x
            go_upto_region 8 with fail
            refine wp_cond_false (ev q126x rfl) ?_
            clear q126x
            go_upto_region 8 with fail
            refine wp_region_lit ?_
            refine q126.t (.int .i64 (j : Int)) (ex_move rfl (q126.e (j := 7) rfl)) fun _ q127 => ?_;clear q126
            refine q127.t (.int .i64 ((j + 1 : Nat) : Int)) (ex_bin rfl (q127.e (j := 25) rfl) rfl (add1C _ _ j (by omega) _)) fun _ q128 => ?_;clear q127
            refine q128.t (.int .i64 ((j + 1 : Nat) : Int)) (ex_assign rfl (q128.e (j := 26) rfl)) fun _ q129 => ?_;clear q128
            have q130 := ((((Rp.nil q129.z).cons (q129.a 0 rfl)).cons (q129.a 1 rfl)).cons (q129.a 7 rfl))
            clear q129
            refine wpList_nil ?_
            exact ⟨_, rfl, hit, q130, brw6, by rw [hR, hF, hfr]; rfl⟩
      · obtain rfl : j = l.length := by omega
        have hE : frm l k O = none := by rw [hR]; cases k; rfl; exact frF_end _ _ _
        go_upto_region 7 with fail
        refine wp_region_lit ?_
        refine q100.t (.int .i64 (l.length : Int)) (ex_move rfl (q100.e (j := 7) rfl)) fun _ q101 => ?_;clear q100
        refine q101.t (.slice a l.length c) (ex_move rfl (q101.e (j := 0) rfl)) fun _ q102 => ?_;clear q101
        refine q102.t (.int .i64 (l.length : Int)) (ex_len18 rfl rfl (q102.e (j := 22) rfl)) fun _ q103 => ?_;clear q102
        refine q103.t (.bool false) (ex_bin rfl (q103.e (j := 21) rfl) (q103.e (j := 23) rfl) (ltF _ _ hit _)) fun _ q104 => ?_;clear q103
        refine wpList_nil ?_
        go_upto_region 15 with fail
        refine wp_cond_false (q104.e (j := 24) rfl) ?_
        go_upto_region 15 with fail
        refine wp_region_lit ?_
        refine q104.t (.slice none 0 0) (ex_assign rfl rfl) fun _ q105 => ?_;clear q104
        refine q105.t (.bool false) (ex_assign rfl rfl) fun _ q106 => ?_;clear q105
        refine wpList_nil ?_
        go_wp2
        exact bodyPost_ret (results2_18 rfl (q106.a 4 rfl) (q106.a 5 rfl)) rfl ⟨none, 0, 0, by rw [hE]; rfl, by rw [hE]; exact ⟨rfl, Nat.le_refl _, by unfold maxLen; omega, fun _ => ⟨rfl, rfl⟩, fun x hx => by cases hx⟩, br⟩
theorem from18 {l : List Kl} (hl8 : l.length ≤ 8) (hfx : ∀ x ∈ l, x.fits) : ∀ k, FC l k
  | 0 => from_step hl8 hfx 0 (fun k' h => by omega)
  | k + 1 => from_step hl8 hfx (k + 1) (fun k' h => by
    obtain rfl : k' = k := by omega
    exact from18 hl8 hfx k')
set_option maxRecDepth 100000 in
set_option maxHeartbeats 2000000 in
theorem refSearch18 (l : List Kl) (a : Option Addr) (c : Nat) (w : World) (h : SlY yK w a l.length c l) (hfx : ∀ x ∈ l, x.fits) (hbn : l.length ≤ 140737488355328) :
    Calls Try.prog 52 #[.slice a l.length c] w fun e w' => ∃ a' n' c', e = .returned (.tuple #[.slice a' n' c', .bool (srA l).isSome, .int .i64 (srE l)]) ∧ SlY yN w' a' n' c' (ints ((srA l).getD [])) ∧ Below w.heap.size w w' := by
  go_enter Try.func52, Try.ntmps52
  go_upto_region 0 with fail
  refine wp_region_lit ?_
  refine vl_gen (fun T => Rp T 20 [(0, gw true (.slice a l.length c))]) ((Rp.nil rfl).cons rfl) (fun Z0 q0 => ?_)
  refine q0.t (.slice none 0 0) (ex_assign rfl rfl) fun _ q1 => ?_;clear q0
  refine q1.t (.bool false) (ex_assign rfl rfl) fun _ q2 => ?_;clear q1
  refine q2.t (.int .i64 0) (ex_assign rfl rfl) fun _ q3 => ?_;clear q2
  refine wpList_nil ?_
  go_upto_region 1 with fail
  refine wp_region_lit ?_
  refine q3.t (.slice a l.length c) (ex_move rfl (q3.e (j := 0) rfl)) fun _ q4 => ?_;clear q3
  refine vcallP (want_none rfl) (ex_call rfl (by simp only [List.map_toArray, List.map_cons, List.map_nil, (q4.e (j := 7) rfl), evc] <;> rfl) rfl) (refCheck18 l a c w h hfx hbn) rfl q4.z (by decide) ?_
  rintro e w1 ⟨rfl, b1⟩
  refine ⟨_, rfl, q4.k fun _ q5 => ?_⟩;clear q4
  have z1 := b1.size
  refine q5.t (.bool (!decide (kchk l = 0))) (ex_bin rfl (q5.e (j := 8) rfl) rfl (neqC _ _ _ _ _)) fun _ q6 => ?_;clear q5
  have q7 := (((Rp.nil q6.z).cons (q6.a 0 rfl)).cons (q6.a 9 rfl))
  clear q6
  refine wpList_nil ?_
  by_cases hk : kchk l = 0
  · have q7x := q7.a 9 rfl
    rw [hk] at q7x
    go_upto_region 3 with fail
    refine wp_cond_false (ev q7x rfl) ?_
    clear q7x
    go_upto_region 3 with fail
    refine wp_region_lit ?_
    refine q7.t (.slice a l.length c) (ex_move rfl (q7.e (j := 0) rfl)) fun _ q8 => ?_;clear q7
    refine q8.t (.int .i64 (l.length : Int)) (ex_len18 rfl rfl (q8.e (j := 10) rfl)) fun _ q9 => ?_;clear q8
    refine q9.t (.bool (decide (8 < (l.length : Int)))) (ex_bin rfl (q9.e (j := 11) rfl) rfl (gtrC _ _ _ _ _)) fun _ q10 => ?_;clear q9
    have q11 := (((Rp.nil q10.z).cons (q10.a 0 rfl)).cons (q10.a 12 rfl))
    clear q10
    refine wpList_nil ?_
    by_cases h8 : 8 < l.length
    · have hE : srE l = 181 := by simp [srE, hk, h8]
      have hA : srA l = none := by simp [srA, hE]
      have q11x := q11.a 12 rfl
      rw [decide_eq_true (by omega)] at q11x
      go_upto_region 4 with fail
      refine wp_cond_true (ev q11x rfl) ?_
      go_upto_region 4 with fail
      refine wp_region_lit ?_
      refine q11.t (.slice none 0 0) (ex_assign rfl rfl) fun _ q12 => ?_;clear q11
      refine q12.t (.bool false) (ex_assign rfl rfl) fun _ q13 => ?_;clear q12
      refine q13.t (.int .i64 181) (ex_assign rfl rfl) fun _ q14 => ?_;clear q13
      refine wpList_nil ?_
      go_wp2
      exact bodyPost_ret (results3_18 rfl (q14.a 2 rfl) (q14.a 3 rfl) (q14.a 4 rfl)) rfl ⟨none, 0, 0, by rw [hA, hE]; rfl, by rw [hA]; exact ⟨rfl, Nat.le_refl _, by unfold maxLen; omega, fun _ => ⟨rfl, rfl⟩, fun x hx => by cases hx⟩, b1⟩
    · have hE : srE l = 0 := by simp [srE, hk, h8]
      have hA : srA l = lst l := by simp [srA, hE]
      have q11x := q11.a 12 rfl
      rw [decide_eq_false (by omega)] at q11x
      have h8l : l.length ≤ 8 := by omega
      have CC := from18 h8l hfx l.length a c [] none 0 w1 (h.on b1 (Nat.le_refl _)) ⟨rfl, Nat.le_refl _, by unfold maxLen; simp, fun _ => ⟨rfl, rfl⟩, fun x hx => by cases hx⟩ (cU_le _ _) (by simpa using h8l) (fun p hp => by cases hp)
      rw [frm_lst l h8l] at CC
      go_upto_region 5 with fail
      refine wp_cond_false (ev q11x rfl) ?_
      clear q11x
      go_upto_region 5 with fail
      refine wp_region_lit ?_
      refine q11.t (.slice a l.length c) (ex_move rfl (q11.e (j := 0) rfl)) fun _ q12 => ?_;clear q11
      refine vcallP (want_none rfl) (ex_call rfl (by simp only [List.map_toArray, List.map_cons, List.map_nil, (q12.e (j := 14) rfl), evc] <;> rfl) rfl) (CC) rfl q12.z (by decide) ?_
      rintro e w2 ⟨a6, n6, c6, rfl, sl6, b6⟩
      refine ⟨_, rfl, q12.k fun _ q13 => ?_⟩;clear q12
      have b2 : Below w.heap.size w w2 := b1.trans (b6.mono z1)
      refine q13.t (.tuple #[.slice a6 n6 c6, .bool (lst l).isSome]) (ex_move rfl (q13.e (j := 15) rfl)) fun _ q14 => ?_;clear q13
      refine q14.t (.slice a6 n6 c6) (ex_ext18 rfl (q14.e (j := 13) rfl) rfl) fun _ q15 => ?_;clear q14
      refine q15.t (.bool (lst l).isSome) (ex_ext18 rfl (q15.e (j := 13) rfl) rfl) fun _ q16 => ?_;clear q15
      refine q16.t (.slice a6 n6 c6) (ex_assign rfl (q16.e (j := 16) rfl)) fun _ q17 => ?_;clear q16
      refine q17.t (.bool (lst l).isSome) (ex_assign rfl (q17.e (j := 17) rfl)) fun _ q18 => ?_;clear q17
      refine wpList_nil ?_
      go_upto_region 6 with fail
      refine wp_region_lit ?_
      refine q18.t (.slice a6 n6 c6) (ex_move rfl (q18.e (j := 5) rfl)) fun _ q19 => ?_;clear q18
      refine q19.t (.bool (lst l).isSome) (ex_move rfl (q19.e (j := 6) rfl)) fun _ q20 => ?_;clear q19
      refine q20.t (.slice a6 n6 c6) (ex_assign rfl (q20.e (j := 18) rfl)) fun _ q21 => ?_;clear q20
      refine q21.t (.bool (lst l).isSome) (ex_assign rfl (q21.e (j := 19) rfl)) fun _ q22 => ?_;clear q21
      refine q22.t (.int .i64 0) (ex_assign rfl rfl) fun _ q23 => ?_;clear q22
      refine wpList_nil ?_
      go_wp2
      exact bodyPost_ret (results3_18 rfl (q23.a 2 rfl) (q23.a 3 rfl) (q23.a 4 rfl)) rfl ⟨a6, n6, c6, by rw [hA, hE], by rw [hA]; exact sl6, b2⟩
  · have hk2 : kchk l = 180 := (kcA_zero [] l).resolve_left hk
    have hE : srE l = 180 := by simp [srE, hk2]
    have hA : srA l = none := by simp [srA, hE]
    have q7x := q7.a 9 rfl
    rw [decide_eq_false hk] at q7x
    go_upto_region 2 with fail
    refine wp_cond_true (ev q7x rfl) ?_
    go_upto_region 2 with fail
    refine wp_region_lit ?_
    refine q7.t (.slice none 0 0) (ex_assign rfl rfl) fun _ q8 => ?_;clear q7
    refine q8.t (.bool false) (ex_assign rfl rfl) fun _ q9 => ?_;clear q8
    refine q9.t (.int .i64 180) (ex_assign rfl rfl) fun _ q10 => ?_;clear q9
    refine wpList_nil ?_
    go_wp2
    exact bodyPost_ret (results3_18 rfl (q10.a 2 rfl) (q10.a 3 rfl) (q10.a 4 rfl)) rfl ⟨none, 0, 0, by rw [hA, hE]; rfl, by rw [hA]; exact ⟨rfl, Nat.le_refl _, by unfold maxLen; omega, fun _ => ⟨rfl, rfl⟩, fun x hx => by cases hx⟩, b1⟩
theorem srK_len (l : List Kl) : ∀ (k : Nat) (D : List Bool) (L : List Cl) (s : List Nat), srK l k D L = some s → s.length ≤ k
  | 0, D, L, s, h => by
    unfold srK at h
    split at h
    · cases h
    · cases h; simp
  | k + 1, D, L, s, h => by
    unfold srK at h
    split at h
    · obtain ⟨q, hq, h2⟩ := List.exists_of_findSome?_eq_some h
      cases hx : l[q]? with
      | none => rw [hx] at h2; cases h2
      | some x =>
        rw [hx, Option.bind_some] at h2
        split at h2
        · cases hs : srK l k (D.set q true) (dnK L x) with
          | none => rw [hs] at h2; cases h2
          | some t =>
            rw [hs] at h2
            cases h2
            have := srK_len l k _ _ t hs
            simp
            omega
        · cases h2
    · cases h; simp
theorem srA_len (l : List Kl) : (ints ((srA l).getD [])).length ≤ 140737488355328 := by
  rw [ints_len]
  unfold srA
  split
  · simp
  · rename_i h0
    have h8 : l.length ≤ 8 := by
      have h0 : srE l = 0 := by simpa using h0
      unfold srE at h0
      split at h0
      · rename_i h; exact absurd h0 h
      · split at h0
        · cases h0
        · omega
    cases hs : lst l with
    | none => simp
    | some s =>
      have := srK_len l _ _ _ s hs
      simp
      omega
end Go.Proofs.Ytjkleldoeojbbaa

namespace Go.Proofs.Ytjkleldoeojbbaa
open Classical
set_option linter.unusedVariables false
set_option linter.unusedSimpArgs false

/-! ### Where an order breaks: the program's answer is the document's -/
def okO (n : Nat) : List Int → List Int → Bool
  | _, [] => true
  | ahead, p :: r => if p < 0 ∨ (n : Int) ≤ p ∨ hasI ahead p = true then false else okO n (ahead ++ [p]) r
theorem okO_at {n : Nat} {Ord : List Int} {j : Nat} {p : Int} (h : Ord[j]? = some p) : okO n (Ord.take j) (Ord.drop j) = if p < 0 ∨ (n : Int) ≤ p ∨ hasI (Ord.take j) p = true then false else okO n (Ord.take (j + 1)) (Ord.drop (j + 1)) := by
  have hj := (List.getElem?_eq_some_iff.1 h).1
  have he := (List.getElem?_eq_some_iff.1 h).2
  rw [List.drop_eq_getElem_cons hj, he, okO, List.take_add_one, h]
  rfl
theorem hasI_app (A B : List Int) (k : Int) : hasI (A ++ B) k = (hasI A k || hasI B k) := by simp [hasI]
theorem dO_snocI (n : Nat) (O : List Int) (q : Nat) (hq : q < n) : dO n (O ++ [(q : Int)]) = (dO n O).set q true := by
  apply List.ext_getElem?
  intro j
  by_cases hj : j < n
  · have h1 : (dO n (O ++ [(q : Int)]))[j]? = some (hasI (O ++ [(q : Int)]) (j : Int)) := by simp [dO, hj]
    have h2 : (dO n O)[j]? = some (hasI O (j : Int)) := by simp [dO, hj]
    rw [h1, List.getElem?_set, hasI_snoc]
    by_cases e : q = j
    · subst e
      simp [dO_len, hq]
    · have : ¬ ((q : Int) = (j : Int)) := by omega
      rw [if_neg e, h2]
      simp [this]
  · rw [List.getElem?_eq_none (by rw [dO_len]; omega), List.getElem?_eq_none (by rw [List.length_set, dO_len]; omega)]
theorem stK_ok (n : Nat) : ∀ (r ahead : List Int), stK n r (dO n ahead) = if okO n ahead r then some (dO n (ahead ++ r)) else none
  | [], ahead => by simp [stK, okO]
  | p :: r, ahead => by
    unfold stK okO
    by_cases h1 : p < 0
    · simp [h1]
    · by_cases h2 : (n : Int) ≤ p
      · simp [h2]
      · obtain ⟨q, rfl⟩ : ∃ q : Nat, p = (q : Int) := ⟨p.toNat, by omega⟩
        have hq : q < n := by omega
        rw [Int.toNat_natCast, dO_at _ hq]
        by_cases h3 : hasI ahead (q : Int) = true
        · simp [h3]
        · have hc : ¬ ((q : Int) < 0 ∨ (n : Int) ≤ (q : Int) ∨ hasI ahead (q : Int) = true) := by
            rintro (h | h | h)
            · omega
            · omega
            · exact h3 h
          rw [if_neg hc, if_neg hc, ← dO_snocI n ahead q hq, stK_ok n r]
          simp
theorem dO_nil (n : Nat) : dO n [] = List.replicate n false := by
  apply List.ext_getElem?
  intro j
  by_cases hj : j < n
  · simp [dO, hj, hasI]
  · rw [List.getElem?_eq_none (by rw [dO_len]; omega), List.getElem?_eq_none (by simp; omega)]
theorem stnd_ok (n : Nat) (Ord : List Int) : stnd n Ord = if okO n [] Ord then some (dO n Ord) else none := by
  unfold stnd
  rw [← dO_nil, stK_ok]
  simp
theorem okO_app (n : Nat) : ∀ (r ahead : List Int), okO n ahead r = true → (∀ p ∈ r, 0 ≤ p ∧ p < (n : Int) ∧ hasI ahead p = false)
  | [], ahead, h => fun p hp => by cases hp
  | q :: r, ahead, h => by
    unfold okO at h
    split at h
    · cases h
    · rename_i hc
      intro p hp
      rcases List.mem_cons.1 hp with rfl | hp
      · refine ⟨by omega, by omega, ?_⟩
        cases hh : hasI ahead p with
        | false => rfl
        | true => exact absurd (.inr (.inr hh)) hc
      · obtain ⟨h1, h2, h3⟩ := okO_app n r _ h p hp
        rw [hasI_snoc, Bool.or_eq_false_iff] at h3
        exact ⟨h1, h2, h3.1⟩
theorem okO_cons {n : Nat} {ahead r : List Int} {p : Int} (h : okO n ahead (p :: r) = true) : okO n (ahead ++ [p]) r = true := by
  unfold okO at h
  split at h
  · cases h
  · exact h
theorem snO_lt (l : List Kl) (t b : Int) : ∀ r : List Int, snO l t r < b ↔ t < b ∨ ∃ p ∈ r, ∃ y, l[p.toNat]? = some y ∧ ansK y = true ∧ y.e < b
  | [] => by simp [snO]
  | p :: r => by
    have ih := snO_lt l t b r
    unfold snO
    constructor
    · intro h
      cases hy : l[p.toNat]? with
      | none =>
        rw [hy] at h
        rcases ih.1 h with h | ⟨q, hq, y, h1, h2, h3⟩
        · exact .inl h
        · exact .inr ⟨q, by simp [hq], y, h1, h2, h3⟩
      | some y =>
        rw [hy] at h
        dsimp only at h
        split at h
        · rename_i ha
          by_cases he : y.e < b
          · exact .inr ⟨p, by simp, y, hy, ha, he⟩
          · rcases ih.1 (by omega) with h | ⟨q, hq, y, h1, h2, h3⟩
            · exact .inl h
            · exact .inr ⟨q, by simp [hq], y, h1, h2, h3⟩
        · rcases ih.1 h with h | ⟨q, hq, y, h1, h2, h3⟩
          · exact .inl h
          · exact .inr ⟨q, by simp [hq], y, h1, h2, h3⟩
    · intro h
      have hcase : snO l t r < b ∨ ∃ y, l[p.toNat]? = some y ∧ ansK y = true ∧ y.e < b := by
        rcases h with h | ⟨q, hq, y, h1, h2, h3⟩
        · exact .inl (ih.2 (.inl h))
        · rcases List.mem_cons.1 hq with rfl | hq
          · exact .inr ⟨y, h1, h2, h3⟩
          · exact .inl (ih.2 (.inr ⟨q, hq, y, h1, h2, h3⟩))
      cases hy : l[p.toNat]? with
      | none =>
        rcases hcase with h | ⟨y, h1, _⟩
        · exact h
        · rw [hy] at h1; cases h1
      | some y =>
        dsimp only
        rcases hcase with h | ⟨y', h1, h2, h3⟩
        · split
          · omega
          · exact h
        · rw [hy] at h1
          cases h1
          rw [if_pos h2]
          omega
theorem snI_lt (l : List Kl) (s : List Bool) (b : Int) (hb : b ≤ 9223372036854775807) : ∀ n, snI l s n < b ↔ ∃ j, j < n ∧ ∃ y, l[j]? = some y ∧ ansK y = true ∧ at9 s j = false ∧ y.e < b
  | 0 => by
    simp only [snI]
    constructor
    · intro h; omega
    · rintro ⟨j, hj, _⟩; omega
  | n + 1 => by
    have ih := snI_lt l s b hb n
    unfold snI
    constructor
    · intro h
      have lift : snI l s n < b → ∃ j, j < n + 1 ∧ ∃ y, l[j]? = some y ∧ ansK y = true ∧ at9 s j = false ∧ y.e < b := fun h => by
        obtain ⟨j, hj, r⟩ := ih.1 h
        exact ⟨j, by omega, r⟩
      cases hy : l[n]? with
      | none => rw [hy] at h; exact lift h
      | some y =>
        rw [hy] at h
        dsimp only at h
        split at h
        · rename_i ha
          rw [Bool.and_eq_true, Bool.not_eq_true'] at ha
          by_cases he : y.e < b
          · exact ⟨n, by omega, y, hy, ha.1, ha.2, he⟩
          · exact lift (by omega)
        · exact lift h
    · rintro ⟨j, hj, y, h1, h2, h3, h4⟩
      by_cases e : j = n
      · subst e
        rw [h1]
        dsimp only
        rw [if_pos (by rw [h2, h3]; rfl)]
        omega
      · have := ih.2 ⟨j, by omega, y, h1, h2, h3, h4⟩
        cases hy : l[n]? with
        | none => exact this
        | some z =>
          dsimp only
          split
          · omega
          · exact this
theorem late_iff (l : List Kl) (D : List Bool) (x : Kl) : lateK l D x = true ↔ ∃ j, j < l.length ∧ ∃ y, l[j]? = some y ∧ ansK y = true ∧ at9 D j = false ∧ y.e < x.b := by
  unfold lateK laI
  rw [List.any_eq_true]
  constructor
  · rintro ⟨j, hj, h⟩
    have hj := List.mem_range.1 hj
    rw [List.getElem?_eq_getElem hj] at h
    dsimp only at h
    unfold prcK at h
    simp only [Bool.and_eq_true, Bool.not_eq_true', decide_eq_true_eq] at h
    exact ⟨j, hj, l[j], List.getElem?_eq_getElem hj, by unfold ansK; simpa using h.2.1, h.1, h.2.2⟩
  · rintro ⟨j, hj, y, h1, h2, h3, h4⟩
    refine ⟨j, List.mem_range.2 hj, ?_⟩
    rw [h1]
    dsimp only
    unfold ansK at h2
    unfold prcK
    rw [h3, h2]
    simp [h4]
theorem sn_late (l : List Kl) (ahead r : List Int) (x : Kl) (hx : x.b ≤ 9223372036854775807) (hok : okO l.length ahead r = true) : decide (snO l (snI l (dO l.length (ahead ++ r)) l.length) r < x.b) = lateK l (dO l.length ahead) x := by
  have hp := okO_app _ _ _ hok
  rw [Bool.eq_iff_iff, decide_eq_true_eq, snO_lt, snI_lt _ _ _ hx, late_iff]
  constructor
  · rintro (⟨j, hj, y, h1, h2, h3, h4⟩ | ⟨p, hpr, y, h1, h2, h3⟩)
    · rw [dO_at _ hj, hasI_app, Bool.or_eq_false_iff] at h3
      exact ⟨j, hj, y, h1, h2, by rw [dO_at _ hj]; exact h3.1, h4⟩
    · obtain ⟨g1, g2, g3⟩ := hp p hpr
      have hj : p.toNat < l.length := by omega
      refine ⟨p.toNat, hj, y, h1, h2, ?_, h3⟩
      rw [dO_at _ hj, show ((p.toNat : Nat) : Int) = p by omega]
      exact g3
  · rintro ⟨j, hj, y, h1, h2, h3, h4⟩
    rw [dO_at _ hj] at h3
    cases hr : hasI r (j : Int) with
    | false => exact .inl ⟨j, hj, y, h1, h2, by rw [dO_at _ hj, hasI_app, h3, hr]; rfl, h4⟩
    | true =>
      unfold hasI at hr
      rw [List.any_eq_true] at hr
      obtain ⟨p, hpr, e⟩ := hr
      have e : p = (j : Int) := by simpa using e
      subst e
      exact .inr ⟨_, hpr, y, by rw [Int.toNat_natCast]; exact h1, h2, h4⟩
theorem ho_bk (l : List Kl) (hfx : ∀ x ∈ l, x.fits) : ∀ (r ahead : List Int) (i : Nat) (L : List Cl), okO l.length ahead r = true → hoA l (dO l.length (ahead ++ r)) (snI l (dO l.length (ahead ++ r)) l.length) i r L = bkA l i ahead r L
  | [], ahead, i, L, hok => by simp [hoA, bkA]
  | p :: r, ahead, i, L, hok => by
    rw [hoA, bkA]
    cases hx : l[p.toNat]? with
    | none => rfl
    | some x =>
      dsimp only
      have hb := (hfx x (List.mem_of_getElem? hx)).bw
      rw [sn_late l ahead (p :: r) x (i64_wf hb).2 hok]
      have ih := ho_bk l hfx r (ahead ++ [p]) (i + 1) (dnK L x) (okO_cons hok)
      rw [List.append_assoc, List.singleton_append] at ih
      rw [ih]
/-- What the document's Holds answers. -/
theorem hld_eq (l : List Kl) (hfx : ∀ x ∈ l, x.fits) (Ord : List Int) : hld l Ord = if kchk l ≠ 0 then (0, kchk l) else if okO l.length [] Ord then (brk l Ord, 0) else (0, 182) := by
  unfold hld
  rw [stnd_ok]
  cases hok : okO l.length [] Ord with
  | false => rfl
  | true =>
    have := ho_bk l hfx Ord [] 0 [] hok
    rw [List.nil_append] at this
    simp only [if_true]
    rw [this]
    rfl

end Go.Proofs.Ytjkleldoeojbbaa

namespace Go.Proofs.Ytjkleldoeojbbaa
open Go.RowKit Go.Maps
open Classical
set_option linter.unusedVariables false
set_option linter.unusedSimpArgs false

/-! Regions that draw their order and end in stores over what they read: what only reads is taken first under S; the stores (late) wait for all of it, and behind them S is asked no more. -/
section
variable {P : Program} {ops : Array Oper} {Q : Exit → Act → World → Prop} {md : Region.Mode} {S : World → Prop} {late : Nat → Bool}
def wpAnyG (P : Program) (md : Region.Mode) (ops : Array Oper) (late : Nat → Bool) (Q : Exit → Act → World → Prop) (S : World → Prop) : Nat → Array Bool → Act → World → Prop
  | 0, listed, a, w => Region.ready md ops listed = [] ∧ Q .normal a w
  | fuel + 1, listed, a, w =>
    (Region.ready md ops listed = [] → Q .normal a w) ∧
    ∀ i ∈ Region.ready md ops listed, wpOp P ops Q i (fun a' w' => ((∀ k, late k = true → (listed.setIfInBounds i true).getD k false = false) → S w') ∧ wpAnyG P md ops late Q S fuel (listed.setIfInBounds i true) a' w') a w
theorem wpAny_of_G : ∀ (fuel : Nat) (listed : Array Bool) (a : Act) (w : World), wpAnyG P md ops late Q S fuel listed a w → wpAny P md ops Q fuel listed a w
  | 0, _, _, _, h => h
  | fuel + 1, _, _, _, h => ⟨h.1, fun i hi => wpOp_mono (fun a' w' h' => wpAny_of_G fuel _ a' w' h'.2) (h.2 i hi)⟩
theorem getD_setb {l : Array Bool} {i k : Nat} (h : i ≠ k) (d : Bool) : (l.setIfInBounds i true).getD k d = l.getD k d := by
  simp [Array.getD_eq_getD_getElem?, Array.getElem?_setIfInBounds, h]
theorem wpAnyG_first {i : Nat} {oi : Oper} {v : Value} (hi : ops[i]? = some oi) (hsel : ∀ (j : Nat) (o : Oper) cs b, ops[j]? = some o → o.op ≠ .select cs b)
    (hQ : ∀ c a w, Q (.panic c) (a.put oi.dst v) w → Q (.panic c) a w) (hlate : ∀ k ok, late k = true → ops[k]? = some ok → ∃ e ∈ ok.after, Region.binds md e = true ∧ e.on = i) (hil : late i = false) :
    ∀ (fuel : Nat) (listed : Array Bool) (a : Act) (w : World), (∀ k, late k = true → listed.getD k false = false) →
      (∀ j oj, ops[j]? = some oj → j ≠ i → listed.getD j true = false → (∀ e ∈ oj.after, Region.binds md e = true → e.on ≠ i) → oi.apart ops oj = true) →
      i ∈ Region.ready md ops listed → YieldsIf P ops S oi v a → S w →
      wpAnyG P md ops late Q S fuel (listed.setIfInBounds i true) (a.put oi.dst v) w → wpAnyG P md ops late Q S (fuel + 1) listed a w := by
  intro fuel
  induction fuel with
  | zero =>
    intro listed a w _ _ hr hy hS H
    refine ⟨fun h => (by rw [h] at hr; cases hr), fun j hj => ?_⟩
    by_cases hji : j = i
    · subst hji; exact hy.wpOp hi hS ⟨fun _ => hS, H⟩
    · have := ready_mono hj hji
      rw [H.1] at this
      cases this
  | succ fuel ih =>
    intro listed a w hno hfree hr hy hS H
    refine ⟨fun h => (by rw [h] at hr; cases hr), fun j hj => ?_⟩
    by_cases hji : j = i
    · subst hji; exact hy.wpOp hi hS ⟨fun _ => hS, H⟩
    · have h1 := H.2 j (ready_mono hj hji)
      obtain ⟨hjun, oj, hoj, hall⟩ := mem_ready.1 hj
      have hnot : ∀ e ∈ oj.after, Region.binds md e = true → e.on ≠ i := fun e he hb heq => by
        have h1 := hall e he hb
        have h0 := (mem_ready.1 hr).1
        rw [heq] at h1
        rcases Nat.lt_or_ge i listed.size with h' | h'
        · simp [h'] at h0 h1; rw [h0] at h1; cases h1
        · simp [Array.getElem?_eq_none h'] at h1
      have hjl : late j = false := by
        cases e : late j with
        | false => rfl
        | true =>
          obtain ⟨x, hx, hb, ho⟩ := hlate j oj e hoj
          exact absurd ho (hnot x hx hb)
      have hno2 : ∀ k, late k = true → ((listed.setIfInBounds i true).setIfInBounds j true).getD k false = false := fun k hk => by
        rw [getD_setb (by rintro rfl; rw [hjl] at hk; cases hk), getD_setb (by rintro rfl; rw [hil] at hk; cases hk)]
        exact hno k hk
      have hno3 : ∀ k, late k = true → (listed.setIfInBounds j true).getD k false = false := fun k hk => by
        rw [getD_setb (by rintro rfl; rw [hjl] at hk; cases hk)]
        exact hno k hk
      have h2 := wpOp_putIf hoj (hfree j oj hoj hji hjun hnot) (fun cs b => hsel i oi cs b hi) (fun cs b => hsel j oj cs b hoj) hQ hy h1
      have hfree' : ∀ k ok, ops[k]? = some ok → k ≠ i → (listed.setIfInBounds j true).getD k true = false →
          (∀ e ∈ ok.after, Region.binds md e = true → e.on ≠ i) → oi.apart ops ok = true := fun k ok hk hki hun hno => by
        refine hfree k ok hk hki ?_ hno
        by_cases hjk : j = k
        · subst hjk; exact hjun
        · rw [getD_set_ne true hjk] at hun; exact hun
      refine wpOp_mono (fun a' w' h3 => ⟨fun _ => h3.2.1 hno2, ih (listed.setIfInBounds j true) a' w' hno3 hfree' (ready_mono hr (Ne.symm hji)) h3.1 (h3.2.1 hno2) ?_⟩) h2
      rw [Array.setIfInBounds_comm _ _ hji]
      exact h3.2.2
theorem wpAnyG_firstW {i : Nat} {oi : Oper} {v : Value} (hi : ops[i]? = some oi) (hsel : ∀ (j : Nat) (o : Oper) cs b, ops[j]? = some o → o.op ≠ .select cs b)
    (hQ : ∀ c a w, Q (.panic c) (a.put oi.dst v) w → Q (.panic c) a w) (hil : late i = false) :
    ∀ (fuel : Nat) (listed : Array Bool) (a : Act) (w : World),
      (∀ j oj, ops[j]? = some oj → j ≠ i → listed.getD j true = false → (∀ e ∈ oj.after, Region.binds md e = true → e.on ≠ i) → oi.apart ops oj = true) →
      i ∈ Region.ready md ops listed → YieldsIf P ops (fun _ => True) oi v a → ((∀ k, late k = true → listed.getD k false = false) → S w) →
      wpAnyG P md ops late Q S fuel (listed.setIfInBounds i true) (a.put oi.dst v) w → wpAnyG P md ops late Q S (fuel + 1) listed a w := by
  have hset : ∀ (listed : Array Bool), (∀ k, late k = true → (listed.setIfInBounds i true).getD k false = false) → ∀ k, late k = true → listed.getD k false = false := fun listed h k hk => by
    have := h k hk
    rwa [getD_setb (by rintro rfl; rw [hil] at hk; cases hk)] at this
  intro fuel
  induction fuel with
  | zero =>
    intro listed a w _ hr hy hS H
    refine ⟨fun h => (by rw [h] at hr; cases hr), fun j hj => ?_⟩
    by_cases hji : j = i
    · subst hji; exact hy.wpOp hi trivial ⟨fun h => hS (hset listed h), H⟩
    · have := ready_mono hj hji
      rw [H.1] at this
      cases this
  | succ fuel ih =>
    intro listed a w hfree hr hy hS H
    refine ⟨fun h => (by rw [h] at hr; cases hr), fun j hj => ?_⟩
    by_cases hji : j = i
    · subst hji; exact hy.wpOp hi trivial ⟨fun h => hS (hset listed h), H⟩
    · have h1 := H.2 j (ready_mono hj hji)
      obtain ⟨hjun, oj, hoj, hall⟩ := mem_ready.1 hj
      have hnot : ∀ e ∈ oj.after, Region.binds md e = true → e.on ≠ i := fun e he hb heq => by
        have h1 := hall e he hb
        have h0 := (mem_ready.1 hr).1
        rw [heq] at h1
        rcases Nat.lt_or_ge i listed.size with h' | h'
        · simp [h'] at h0 h1; rw [h0] at h1; cases h1
        · simp [Array.getElem?_eq_none h'] at h1
      have hno : (∀ k, late k = true → (listed.setIfInBounds j true).getD k false = false) → ∀ k, late k = true → ((listed.setIfInBounds i true).setIfInBounds j true).getD k false = false := fun h k hk => by
        rw [Array.setIfInBounds_comm _ _ (Ne.symm hji), getD_setb (by rintro rfl; rw [hil] at hk; cases hk)]
        exact h k hk
      have h2 := wpOp_putIf hoj (hfree j oj hoj hji hjun hnot) (fun cs b => hsel i oi cs b hi) (fun cs b => hsel j oj cs b hoj) hQ hy h1
      have hfree' : ∀ k ok, ops[k]? = some ok → k ≠ i → (listed.setIfInBounds j true).getD k true = false →
          (∀ e ∈ ok.after, Region.binds md e = true → e.on ≠ i) → oi.apart ops ok = true := fun k ok hk hki hun hno => by
        refine hfree k ok hk hki ?_ hno
        by_cases hjk : j = k
        · subst hjk; exact hjun
        · rw [getD_set_ne true hjk] at hun; exact hun
      refine wpOp_mono (fun a' w' h3 => ⟨fun h => h3.2.1 (hno h), ih (listed.setIfInBounds j true) a' w' hfree' (ready_mono hr (Ne.symm hji)) h3.1 (fun h => h3.2.1 (hno h)) ?_⟩) h2
      rw [Array.setIfInBounds_comm _ _ hji]
      exact h3.2.2
end
/-- Does every late one wait for number i? -/
def waitsB (ops : Array Oper) (late : Nat → Bool) (i : Nat) : Bool := (List.range ops.size).all fun k => !late k || match ops[k]? with
  | none => true
  | some o => o.after.toList.any fun e => Region.binds .any e && e.on == i
def noneB (late : Nat → Bool) (listed : Array Bool) : Bool := (List.range listed.size).all fun k => !late k || !listed.getD k false
theorem noneB_spec {late : Nat → Bool} {listed : Array Bool} (h : noneB late listed = true) (k : Nat) (hk : late k = true) : listed.getD k false = false := by
  by_cases hl : k < listed.size
  · have := List.all_eq_true.1 h k (List.mem_range.2 hl)
    simpa [hk] using this
  · simp [Array.getD_eq_getD_getElem?, Array.getElem?_eq_none (Nat.le_of_not_lt hl)]
theorem waitsB_spec {ops : Array Oper} {late : Nat → Bool} {i : Nat} (h : waitsB ops late i = true) (k : Nat) (ok : Oper) (hk : late k = true) (ho : ops[k]? = some ok) : ∃ e ∈ ok.after, Region.binds .any e = true ∧ e.on = i := by
  have hl : k < ops.size := (Array.getElem?_eq_some_iff.1 ho).1
  have := List.all_eq_true.1 h k (List.mem_range.2 hl)
  simp only [hk, Bool.not_true, Bool.false_or, ho] at this
  obtain ⟨e, he, h2⟩ := List.any_eq_true.1 this
  simp only [Bool.and_eq_true, beq_iff_eq] at h2
  exact ⟨e, by simpa using he, h2.1, h2.2⟩
structure VG (ops : Array Oper) (late : Nat → Bool) (Q : Exit → Act → World → Prop) (S : World → Prop) (fuel : Nat) (listed : Array Bool) (a : Act) (w : World) : Prop where
  out : wpAnyG Try.prog .any ops late (NoPanic Q) S fuel listed a w
theorem vg_start {id : Nat} {Q : Exit → Act → World → Prop} {a : Act} {w : World} {l : List Oper} (late : Nat → Bool) (S : World → Prop) (hm : Try.prog.follows .mixedOrders = true) (h : VG l.toArray late Q S l.length (Array.replicate l.length false) a w.drew) : (Code.region id l.toArray true).wp Try.prog Q a w :=
  wp_region_noPanic (wp_region_any hm (wpAny_of_G _ _ _ _ (by simpa using h.out)))
theorem vg_done {ops : Array Oper} {late : Nat → Bool} {Q : Exit → Act → World → Prop} {S : World → Prop} {fuel : Nat} {listed : Array Bool} {a : Act} {w : World} (hr : Region.ready .any ops listed = []) (h : Q .normal a w) : VG ops late Q S fuel listed a w := by
  cases fuel with
  | zero => exact ⟨hr, NoPanic.normal h⟩
  | succ n => exact ⟨⟨fun _ => NoPanic.normal h, by rw [hr]; simp⟩⟩
theorem vg_take {ops : Array Oper} {late : Nat → Bool} {o : Oper} {T : Array Value} {df : List Deferred} {w : World} {Q : Exit → Act → World → Prop} {S : World → Prop} {fuel d n : Nat} {listed : Array Bool} (i : Nat) (c : Bool) (V : Value) (hi : ops[i]? = some o) (hs : Region.noSelect ops = true) (hf : Region.free .any ops listed i = true) (hr : (Region.ready .any ops listed).contains i = true)
    (hb1 : waitsB ops late i = true) (hb2 : noneB late listed = true) (hb3 : late i = false)
    (hw : Region.wanted o (yielded ops T) = c) (he : c = true → ∀ v, S v → (execOp (⟨T, df⟩ : Act).eval o).run Try.prog v = .ok (.value V) v) (hd : o.dst = some d) (hz : T.size = n) (hn : d < n) (hS : S w)
    (hk : ∀ T' : Array Value, T'.size = n → (∀ j, j ≠ d → T'[j]? = T[j]?) → T'[d]? = some (gw c V) → VG ops late Q S fuel (listed.setIfInBounds i true) ⟨T', df⟩ w) : VG ops late Q S (fuel + 1) listed ⟨T, df⟩ w := by
  cases c with
  | false =>
    refine ⟨wpAnyG_first (v := undef) hi (Region.noSelect_spec hs) (fun _ _ _ h => h) (waitsB_spec hb1) hb3 fuel listed _ w (noneB_spec hb2) (Region.free_spec hi hf) (by simpa using hr) (.inr ⟨hw, rfl⟩) hS ?_⟩
    rw [hd]
    exact (hk (T.setIfInBounds d undef) (by simp [hz]) (fun i hi => at_set_ne _ hi) (at_set _ (by omega))).out
  | true =>
    refine ⟨wpAnyG_first (v := V) hi (Region.noSelect_spec hs) (fun _ _ _ h => h) (waitsB_spec hb1) hb3 fuel listed _ w (noneB_spec hb2) (Region.free_spec hi hf) (by simpa using hr) (.inl ⟨hw, he rfl⟩) hS ?_⟩
    rw [hd]
    exact (hk (T.setIfInBounds d V) (by simp [hz]) (fun i hi => at_set_ne _ hi) (at_set _ (by omega))).out
/-- An operation that yields its value in whatever world. -/
theorem vg_takeW {ops : Array Oper} {late : Nat → Bool} {o : Oper} {T : Array Value} {df : List Deferred} {w : World} {Q : Exit → Act → World → Prop} {S : World → Prop} {fuel d n : Nat} {listed : Array Bool} (i : Nat) (c : Bool) (V : Value) (hi : ops[i]? = some o) (hs : Region.noSelect ops = true) (hf : Region.free .any ops listed i = true) (hr : (Region.ready .any ops listed).contains i = true) (hb3 : late i = false)
    (hw : Region.wanted o (yielded ops T) = c) (he : c = true → ∀ v, (execOp (⟨T, df⟩ : Act).eval o).run Try.prog v = .ok (.value V) v) (hd : o.dst = some d) (hz : T.size = n) (hn : d < n) (hS : (∀ k, late k = true → listed.getD k false = false) → S w)
    (hk : ∀ T' : Array Value, T'.size = n → (∀ j, j ≠ d → T'[j]? = T[j]?) → T'[d]? = some (gw c V) → VG ops late Q S fuel (listed.setIfInBounds i true) ⟨T', df⟩ w) : VG ops late Q S (fuel + 1) listed ⟨T, df⟩ w := by
  cases c with
  | false =>
    refine ⟨wpAnyG_firstW (v := undef) hi (Region.noSelect_spec hs) (fun _ _ _ h => h) hb3 fuel listed _ w (Region.free_spec hi hf) (by simpa using hr) (.inr ⟨hw, rfl⟩) hS ?_⟩
    rw [hd]
    exact (hk (T.setIfInBounds d undef) (by simp [hz]) (fun i hi => at_set_ne _ hi) (at_set _ (by omega))).out
  | true =>
    refine ⟨wpAnyG_firstW (v := V) hi (Region.noSelect_spec hs) (fun _ _ _ h => h) hb3 fuel listed _ w (Region.free_spec hi hf) (by simpa using hr) (.inl ⟨hw, fun v _ => he rfl v⟩) hS ?_⟩
    rw [hd]
    exact (hk (T.setIfInBounds d V) (by simp [hz]) (fun i hi => at_set_ne _ hi) (at_set _ (by omega))).out
theorem late_no {late : Nat → Bool} {listed : Array Bool} {P : Prop} (k : Nat) (h : (late k && listed.getD k false) = true) : (∀ k, late k = true → listed.getD k false = false) → P := fun h2 => by
  have h3 : late k = true ∧ listed.getD k false = true := by simpa using h
  rw [h2 k h3.1] at h3
  cases h3.2
theorem wpAnyG_all {ops : Array Oper} {late : Nat → Bool} {Q : Exit → Act → World → Prop} {S : World → Prop} {rs : List Nat} {fuel : Nat} {listed : Array Bool} {a : Act} {w : World} (hr : Region.ready .any ops listed = rs) (hne : rs ≠ [])
    (h : ∀ i ∈ rs, wpOp Try.prog ops Q i (fun a' w' => ((∀ k, late k = true → (listed.setIfInBounds i true).getD k false = false) → S w') ∧ wpAnyG Try.prog .any ops late Q S fuel (listed.setIfInBounds i true) a' w') a w) : wpAnyG Try.prog .any ops late Q S (fuel + 1) listed a w :=
  ⟨fun h0 => absurd (hr ▸ h0) hne, hr ▸ h⟩
theorem vg_call {ops : Array Oper} {late : Nat → Bool} {o : Oper} {T : Array Value} {df : List Deferred} {w : World} {Q : Exit → Act → World → Prop} {S : World → Prop} {fuel d n : Nat} {listed : Array Bool} (i : Nat) {fid : FuncId} {args : Array Value} {R : Ending → World → Prop} (hi : ops[i]? = some o) (hr : Region.ready .any ops listed = [i])
    (hw : Region.wanted o (yielded ops T) = true) (he : (execOp (⟨T, df⟩ : Act).eval o).run Try.prog w = .ok (.enter fid args) w) (hc : Calls Try.prog fid args w R) (hd : o.dst = some d) (hz : T.size = n) (hn : d < n)
    (hk : ∀ (e : Ending) (w' : World), R e w' → ∃ V, e = .returned V ∧ S w' ∧ ∀ T' : Array Value, T'.size = n → (∀ j, j ≠ d → T'[j]? = T[j]?) → T'[d]? = some (gw true V) → VG ops late Q S fuel (listed.setIfInBounds i true) ⟨T', df⟩ w') : VG ops late Q S (fuel + 1) listed ⟨T, df⟩ w := by
  refine ⟨wpAnyG_all hr (by simp) (fun j hj => ?_)⟩
  obtain rfl : j = i := by simpa using hj
  unfold wpOp
  rw [hi]
  simp only [hw, if_true]
  refine .inl ?_
  unfold Oper.wp
  rw [he, Oper.upon_enter]
  refine hc.mono ?_
  intro e w' hR
  obtain ⟨V, rfl, hS, hk'⟩ := hk e w' hR
  refine ⟨fun _ => hS, ?_⟩
  rw [hd]
  exact (hk' (T.setIfInBounds d V) (by simp [hz]) (fun i hi => at_set_ne _ hi) (at_set _ (by omega))).out
theorem vg_val {ops : Array Oper} {late : Nat → Bool} {o : Oper} {T : Array Value} {df : List Deferred} {w : World} {Q : Exit → Act → World → Prop} {S : World → Prop} {fuel d n : Nat} {listed : Array Bool} (i : Nat) (V : Value) (w' : World) (hi : ops[i]? = some o) (hr : Region.ready .any ops listed = [i])
    (hw : Region.wanted o (yielded ops T) = true) (he : (execOp (⟨T, df⟩ : Act).eval o).run Try.prog w = .ok (.value V) w') (hd : o.dst = some d) (hz : T.size = n) (hn : d < n) (hS : (∀ k, late k = true → (listed.setIfInBounds i true).getD k false = false) → S w')
    (hk : ∀ T' : Array Value, T'.size = n → (∀ j, j ≠ d → T'[j]? = T[j]?) → T'[d]? = some (gw true V) → VG ops late Q S fuel (listed.setIfInBounds i true) ⟨T', df⟩ w') : VG ops late Q S (fuel + 1) listed ⟨T, df⟩ w := by
  refine ⟨wpAnyG_all hr (by simp) (fun j hj => ?_)⟩
  obtain rfl : j = i := by simpa using hj
  unfold wpOp
  rw [hi]
  simp only [hw, if_true]
  unfold Oper.wp
  rw [he]
  simp only [Oper.upon]
  rw [hd]
  exact .inl ⟨hS, (hk (T.setIfInBounds d V) (by simp [hz]) (fun i hi => at_set_ne _ hi) (at_set _ (by omega))).out⟩
theorem vg_store {ops : Array Oper} {late : Nat → Bool} {o : Oper} {T : Array Value} {df : List Deferred} {w : World} {Q : Exit → Act → World → Prop} {S : World → Prop} {fuel : Nat} {listed : Array Bool} (i : Nat) (w' : World) (hi : ops[i]? = some o) (hr : Region.ready .any ops listed = [i])
    (hl : (late i && decide (i < listed.size)) = true) (hw : Region.wanted o (yielded ops T) = true) (he : (execOp (⟨T, df⟩ : Act).eval o).run Try.prog w = .ok .skip w') (hd : o.dst = none)
    (hk : VG ops late Q S fuel (listed.setIfInBounds i true) ⟨T, df⟩ w') : VG ops late Q S (fuel + 1) listed ⟨T, df⟩ w := by
  refine ⟨wpAnyG_all hr (by simp) (fun j hj => ?_)⟩
  obtain rfl : j = i := by simpa using hj
  unfold wpOp
  rw [hi]
  simp only [hw, if_true]
  refine .inl ?_
  unfold Oper.wp
  rw [he, Oper.upon_skip]
  have hl2 : late j = true ∧ j < listed.size := by simpa using hl
  refine ⟨fun h => ?_, ?_⟩
  · have := h j hl2.1
    simp [Array.getD_eq_getD_getElem?, Array.getElem?_setIfInBounds, hl2.2] at this
  rw [hd]
  exact hk.out

end Go.Proofs.Ytjkleldoeojbbaa

namespace Go.Proofs.Ytjkleldoeojbbaa
open Go.RowKit Go.Maps
open Classical
set_option linter.unusedVariables false
set_option linter.unusedSimpArgs false

def zN : Lay (SV Int) := yS Int 50 46
theorem kzN : zN.Ok := kS Try.underlying46 (by kernel_rfl)
def nilS : Value := .slice none 0 0
def g18 (x y : Value) : List Value := [nilS, nilS, nilS, nilS, nilS, nilS, x, y, nilS, nilS]
theorem alG18 (w : World) : (Instr.alloc 49 true (.tuple #[])).run Try.prog w = .ok (.pointer (some ⟨w.heap.size, 0, none⟩)) (w.alloc (.cells (g18 nilS nilS).toArray 49)) := by kernel_rfl
theorem faG (q k : Nat) (hk : k < 10) (w : World) : (Instr.fieldAt 49 (.pointer (some ⟨q, 0, none⟩)) k).run Try.prog w = .ok (.pointer (some ⟨q, k, none⟩)) w := by
  match k, hk with
  | 0, _ => go_simp
  | 1, _ => go_simp
  | 2, _ => go_simp
  | 3, _ => go_simp
  | 4, _ => go_simp
  | 5, _ => go_simp
  | 6, _ => go_simp
  | 7, _ => go_simp
  | 8, _ => go_simp
  | 9, _ => go_simp
theorem ldNN {w : World} {q o : Nat} {a : Option Addr} {n c : Nat} (h : w.cell? ⟨q, o, none⟩ = some (.slice a n c)) : (Instr.loadAt 46 (.pointer (some ⟨q, o, none⟩))).run Try.prog w = .ok (.slice a n c) w := by go_simp
theorem ldN1 {w : World} {q o : Nat} {a : Option Addr} {n c : Nat} (h : w.cell? ⟨q, o, none⟩ = some (.slice a n c)) : (Instr.loadAt 50 (.pointer (some ⟨q, o, none⟩))).run Try.prog w = .ok (.slice a n c) w := by go_simp
theorem stNN {w : World} {q o : Nat} {u : Value} {a : Option Addr} {n c : Nat} (h : w.cell? ⟨q, o, none⟩ = some u) (hf : w.frozen? ⟨q, o, none⟩ = false) : (Instr.storeAt 46 (.pointer (some ⟨q, o, none⟩)) (.slice a n c)).run Try.prog w = .ok () (w.setCell ⟨q, o, none⟩ (.slice a n c)) := by go_simp
theorem bsNN (a : Option Addr) (n c : Nat) (w : World) : (Instr.buildSlice 46 1 #[(0, .slice a n c)]).run Try.prog w = .ok (.slice (some ⟨w.heap.size, 0, none⟩) 1 1) (w.alloc (.cells #[.slice a n c] 50)) := by go_simp
theorem ixNN (q o n c j : Nat) (hj : j < n) (w : World) : (Instr.indexAt 46 (.slice (some ⟨q, o, none⟩) n c) (.int .i64 (j : Int))).run Try.prog w = .ok (.pointer (some ⟨q, o + j, none⟩)) w := by
  have h1 : (j : Int) < (n : Int) := by omega
  go_simp
theorem ex_lenG {o : Oper} {ρ : Operand → Value} {i : Nat} {a : Option Addr} {n k : Nat} {w : World} {t e : TypeId} (ho : o.op = .call { callee := .builtin .len, args := #[.tmp i], argTypes := #[t] }) (ht : o.type = 3) (hu : Try.prog.underlying t = some (.slice e)) (hx : ρ (.tmp i) = .slice a n k) : (execOp ρ o).run Try.prog w = .ok (.value (.int .i64 (n : Int))) w := by
  unfold execOp
  simp only [ho]
  rw [Sem.run_bind]
  simp only [resolve, List.map_toArray, List.map_cons, List.map_nil, hx, ht]
  go_simp
/-- A Given that has lists of numbers alone, one of each. -/
structure GI (w : World) (q h1 h2 k1 k2 : Nat) (a1 : Option Addr) (c1 : Nat) (a2 : Option Addr) (c2 : Nat) (M : List Int) : Prop where
  bb : BB w q 49 (g18 (.slice (some ⟨h1, 0, none⟩) 1 k1) (.slice (some ⟨h2, 0, none⟩) 1 k2))
  l1 : h1 < w.heap.size
  l2 : h2 < w.heap.size
  e1 : w.cell? ⟨h1, 0, none⟩ = some (.slice a1 M.length c1)
  e2 : w.cell? ⟨h2, 0, none⟩ = some (.slice a2 M.length c2)
  s1 : SlY yN w a1 M.length c1 M
  s2 : SlY yN w a2 M.length c2 M
theorem GI.later {w w' : World} {q h1 h2 k1 k2 : Nat} {a1 : Option Addr} {c1 : Nat} {a2 : Option Addr} {c2 : Nat} {M : List Int} (h : GI w q h1 h2 k1 k2 a1 c1 a2 c2 M) (hb : Below w.heap.size w w') : GI w' q h1 h2 k1 k2 a1 c1 a2 c2 M :=
  ⟨h.bb.later hb, Nat.lt_of_lt_of_le h.l1 hb.size, Nat.lt_of_lt_of_le h.l2 hb.size, (hb.cell (p := ⟨h1, 0, none⟩) h.l1).trans h.e1, (hb.cell (p := ⟨h2, 0, none⟩) h.l2).trans h.e2, h.s1.later hb, h.s2.later hb⟩
end Go.Proofs.Ytjkleldoeojbbaa

namespace Go.Proofs.Ytjkleldoeojbbaa
open Go.RowKit Go.Maps
open Classical
set_option linter.unusedVariables false
set_option linter.unusedSimpArgs false

theorem ldG0 {w : World} {q o : Nat} {a : Option Addr} {n c : Nat} (h : w.cell? ⟨q, o, none⟩ = some (.slice a n c)) : (Instr.loadAt 43 (.pointer (some ⟨q, o, none⟩))).run Try.prog w = .ok (.slice a n c) w := by go_simp
theorem ldG2 {w : World} {q o : Nat} {a : Option Addr} {n c : Nat} (h : w.cell? ⟨q, o, none⟩ = some (.slice a n c)) : (Instr.loadAt 44 (.pointer (some ⟨q, o, none⟩))).run Try.prog w = .ok (.slice a n c) w := by go_simp
theorem ldG4 {w : World} {q o : Nat} {a : Option Addr} {n c : Nat} (h : w.cell? ⟨q, o, none⟩ = some (.slice a n c)) : (Instr.loadAt 45 (.pointer (some ⟨q, o, none⟩))).run Try.prog w = .ok (.slice a n c) w := by go_simp
theorem ldG8 {w : World} {q o : Nat} {a : Option Addr} {n c : Nat} (h : w.cell? ⟨q, o, none⟩ = some (.slice a n c)) : (Instr.loadAt 47 (.pointer (some ⟨q, o, none⟩))).run Try.prog w = .ok (.slice a n c) w := by go_simp
theorem Lent.upd18 {S : Nat → Prop} {B : Nat} {w w' : World} {a : Option Addr} {n c : Nat} {L : List Kl} (h : Lent B w a n c L) (u : Upd S w w') (hS : ∀ k, S k → k < B) : Lent B w' a n c L := by
  obtain ⟨g, e, h1, h2, h3, h4⟩ := h.mrk
  have hn : ¬ S g := fun hs => by have := hS g hs; omega
  exact ⟨h.sl.upd u (fun x hx _ => by rw [e] at hx; cases hx; exact hn), g, e, h1, Nat.lt_of_lt_of_le h2 u.size, h3, (u.cell (p := ⟨g, n * 10, none⟩) h2 hn).trans h4⟩
set_option maxRecDepth 100000 in
set_option maxHeartbeats 2000000 in
theorem intact18 (q h1 h2 k1 k2 : Nat) (a1 : Option Addr) (c1 : Nat) (a2 : Option Addr) (c2 : Nat) (M : List Int) (w : World) (hG : GI w q h1 h2 k1 k2 a1 c1 a2 c2 M) (hbm : M.length ≤ 140737488355328) :
    Calls Try.prog 27 #[.pointer (some ⟨q, 0, none⟩)] w fun e w' => e = .returned (.bool true) ∧ Below w.heap.size w w' := by
  go_enter Try.func27, Try.ntmps27
  go_upto_region 0 with fail
  refine wp_region_lit ?_
  refine vl_gen (fun T => Rp T 133 [(0, gw true (.pointer (some ⟨q, 0, none⟩)))]) ((Rp.nil rfl).cons rfl) (fun Z0 q0 => ?_)
  refine q0.t (.bool false) (ex_assign rfl rfl) fun _ q1 => ?_;clear q0
  refine wpList_nil ?_
  go_upto_region 1 with fail
  refine wp_region_lit ?_
  refine q1.t (.int .i64 ((0 : Nat) : Int)) (ex_assign rfl rfl) fun _ q2 => ?_;clear q1
  have q3 := (((Rp.nil q2.z).cons (q2.a 0 rfl)).cons (q2.a 3 rfl))
  clear q2
  refine wpList_nil ?_
  go_upto_region 2 with fail
  refine v_loop 3 0 (fun j T wr => Rp T 133 [(3, gw true (.int .i64 (j : Int))), (0, gw true (.pointer (some ⟨q, 0, none⟩)))] ∧ Hid (Below w.heap.size w wr)) (fun j T w h => h.1.a 3 rfl) ⟨q3, (Below.refl w.heap.size w)⟩ ?_
  clear q3
  intro j1 T1 r1 hj1 hh1
  obtain ⟨q100, HJ1⟩ := hh1
  have b1 := HJ1.out
  clear HJ1
  have G1 := hG.later b1
  have B1 := G1.bb
  obtain rfl : j1 = 0 := by omega
  go_upto_region 2 with fail
  refine wp_region_lit ?_
  refine q100.t (.int .i64 ((0 : Nat) : Int)) (ex_move rfl (q100.e (j := 3) rfl)) fun _ q101 => ?_;clear q100
  refine q101.t (.pointer (some ⟨q, 0, none⟩)) (ex_move rfl (q101.e (j := 0) rfl)) fun _ q102 => ?_;clear q101
  refine q102.t (.pointer (some ⟨q, 0, none⟩)) (ex_nil rfl (q102.e (j := 9) rfl)) fun _ q103 => ?_;clear q102
  refine q103.t (.pointer (some ⟨q, 0, none⟩)) (ex_fa rfl (q103.e (j := 10) rfl) (faG q 0 (by decide) _)) fun _ q104 => ?_;clear q103
  refine q104.t (.slice none 0 0) (ex_ld rfl (q104.e (j := 11) rfl) (ldG0 ((B1.cell 0).trans rfl))) fun _ q105 => ?_;clear q104
  refine q105.t (.int .i64 ((0 : Nat) : Int)) (ex_lenG rfl rfl Try.underlying43 (q105.e (j := 12) rfl)) fun _ q106 => ?_;clear q105
  refine q106.t (.bool false) (ex_bin rfl (q106.e (j := 8) rfl) (q106.e (j := 13) rfl) (ltF _ _ (by omega) _)) fun _ q107 => ?_;clear q106
  refine wpList_nil ?_
  go_upto_region 6 with fail
  refine wp_cond_false (q107.e (j := 14) rfl) ?_
  go_upto_region 6 with fail
  refine wp_region_lit ?_
  refine q107.t (.int .i64 ((0 : Nat) : Int)) (ex_assign rfl rfl) fun _ q108 => ?_;clear q107
  have q109 := (((Rp.nil q108.z).cons (q108.a 0 rfl)).cons (q108.a 4 rfl))
  clear q108
  refine wpList_nil ?_
  go_upto_region 7 with fail
  refine v_loop 4 0 (fun j T wr => Rp T 133 [(4, gw true (.int .i64 (j : Int))), (0, gw true (.pointer (some ⟨q, 0, none⟩)))] ∧ Hid (Below w.heap.size w wr)) (fun j T w h => h.1.a 4 rfl) ⟨q109, b1⟩ ?_
  clear q109
  intro j2 T2 r2 hj2 hh2
  obtain ⟨q200, HJ2⟩ := hh2
  have b2 := HJ2.out
  clear HJ2
  have G2 := hG.later b2
  have B2 := G2.bb
  obtain rfl : j2 = 0 := by omega
  go_upto_region 7 with fail
  refine wp_region_lit ?_
  refine q200.t (.int .i64 ((0 : Nat) : Int)) (ex_move rfl (q200.e (j := 4) rfl)) fun _ q201 => ?_;clear q200
  refine q201.t (.pointer (some ⟨q, 0, none⟩)) (ex_move rfl (q201.e (j := 0) rfl)) fun _ q202 => ?_;clear q201
  refine q202.t (.pointer (some ⟨q, 0, none⟩)) (ex_nil rfl (q202.e (j := 34) rfl)) fun _ q203 => ?_;clear q202
  refine q203.t (.pointer (some ⟨q, 8, none⟩)) (ex_fa rfl (q203.e (j := 35) rfl) (faG q 8 (by decide) _)) fun _ q204 => ?_;clear q203
  refine q204.t (.slice none 0 0) (ex_ld rfl (q204.e (j := 36) rfl) (ldG8 ((B2.cell 8).trans rfl))) fun _ q205 => ?_;clear q204
  refine q205.t (.int .i64 ((0 : Nat) : Int)) (ex_lenG rfl rfl Try.underlying47 (q205.e (j := 37) rfl)) fun _ q206 => ?_;clear q205
  refine q206.t (.bool false) (ex_bin rfl (q206.e (j := 33) rfl) (q206.e (j := 38) rfl) (ltF _ _ (by omega) _)) fun _ q207 => ?_;clear q206
  refine wpList_nil ?_
  go_upto_region 11 with fail
  refine wp_cond_false (q207.e (j := 39) rfl) ?_
  go_upto_region 11 with fail
  refine wp_region_lit ?_
  refine q207.t (.int .i64 ((0 : Nat) : Int)) (ex_assign rfl rfl) fun _ q208 => ?_;clear q207
  have q209 := (((Rp.nil q208.z).cons (q208.a 0 rfl)).cons (q208.a 5 rfl))
  clear q208
  refine wpList_nil ?_
  go_upto_region 12 with fail
  refine v_loop 5 1 (fun j T wr => Rp T 133 [(5, gw true (.int .i64 (j : Int))), (0, gw true (.pointer (some ⟨q, 0, none⟩)))] ∧ Hid (Below w.heap.size w wr)) (fun j T w h => h.1.a 5 rfl) ⟨q209, b2⟩ ?_
  clear q209
  intro j3 T3 r3 hj3 hh3
  obtain ⟨q300, HJ3⟩ := hh3
  have b3 := HJ3.out
  clear HJ3
  have G3 := hG.later b3
  have B3 := G3.bb
  by_cases hit : j3 = 0
  · subst hit
    go_upto_region 12 with fail
    refine wp_region_lit ?_
    refine q300.t (.int .i64 ((0 : Nat) : Int)) (ex_move rfl (q300.e (j := 5) rfl)) fun _ q301 => ?_;clear q300
    refine q301.t (.pointer (some ⟨q, 0, none⟩)) (ex_move rfl (q301.e (j := 0) rfl)) fun _ q302 => ?_;clear q301
    refine q302.t (.pointer (some ⟨q, 0, none⟩)) (ex_nil rfl (q302.e (j := 59) rfl)) fun _ q303 => ?_;clear q302
    refine q303.t (.pointer (some ⟨q, 6, none⟩)) (ex_fa rfl (q303.e (j := 60) rfl) (faG q 6 (by decide) _)) fun _ q304 => ?_;clear q303
    refine q304.t (.slice (some ⟨h1, 0, none⟩) 1 k1) (ex_ld rfl (q304.e (j := 61) rfl) (ldNN ((B3.cell 6).trans rfl))) fun _ q305 => ?_;clear q304
    refine q305.t (.int .i64 ((1 : Nat) : Int)) (ex_lenG rfl rfl Try.underlying46 (q305.e (j := 62) rfl)) fun _ q306 => ?_;clear q305
    refine q306.t (.bool true) (ex_bin rfl (q306.e (j := 58) rfl) (q306.e (j := 63) rfl) (ltT _ _ (by omega) _)) fun _ q307 => ?_;clear q306
    refine wpList_nil ?_
    go_upto_region 14 with fail
    refine wp_cond_true (q307.e (j := 64) rfl) ?_
    go_upto_region 14 with fail
    refine vq_start (C := fun v => Below r3.heap.size r3 v) (by kernel_rfl) (by kernel_rfl) (Below.refl _ _).drew ?_
    refine q307.q (.pointer (some ⟨q, 0, none⟩)) (fun v hv => ex_move rfl (q307.e (j := 0) rfl)) fun _ q308 => ?_;clear q307
    refine q308.q (.pointer (some ⟨q, 0, none⟩)) (fun v hv => ex_nil rfl (q308.e (j := 67) rfl)) fun _ q309 => ?_;clear q308
    refine q309.q (.pointer (some ⟨q, 6, none⟩)) (fun v hv => ex_fa rfl (q309.e (j := 68) rfl) (faG q 6 (by decide) _)) fun _ q310 => ?_;clear q309
    refine q310.q (.slice (some ⟨h1, 0, none⟩) 1 k1) (fun v hv => ex_ld rfl (q310.e (j := 69) rfl) (ldNN (((B3.later hv).cell 6).trans rfl))) fun _ q311 => ?_;clear q310
    refine q311.q (.int .i64 ((0 : Nat) : Int)) (fun v hv => ex_move rfl (q311.e (j := 5) rfl)) fun _ q312 => ?_;clear q311
    refine q312.q (.pointer (some ⟨h1, 0 + 0, none⟩)) (fun v hv => ex_ix rfl (q312.e (j := 70) rfl) (q312.e (j := 71) rfl) (ixNN h1 0 1 k1 0 (by decide) _)) fun _ q313 => ?_;clear q312
    refine q313.q (.slice a1 M.length c1) (fun v hv => ex_ld rfl (q313.e (j := 72) rfl) (ldN1 (G3.later hv).e1)) fun _ q314 => ?_;clear q313
    refine q314.q (.pointer (some ⟨q, 0, none⟩)) (fun v hv => ex_move rfl (q314.e (j := 0) rfl)) fun _ q315 => ?_;clear q314
    refine q315.q (.pointer (some ⟨q, 0, none⟩)) (fun v hv => ex_nil rfl (q315.e (j := 74) rfl)) fun _ q316 => ?_;clear q315
    refine q316.q (.pointer (some ⟨q, 7, none⟩)) (fun v hv => ex_fa rfl (q316.e (j := 75) rfl) (faG q 7 (by decide) _)) fun _ q317 => ?_;clear q316
    refine q317.q (.slice (some ⟨h2, 0, none⟩) 1 k2) (fun v hv => ex_ld rfl (q317.e (j := 76) rfl) (ldNN (((B3.later hv).cell 7).trans rfl))) fun _ q318 => ?_;clear q317
    refine q318.q (.int .i64 ((0 : Nat) : Int)) (fun v hv => ex_move rfl (q318.e (j := 5) rfl)) fun _ q319 => ?_;clear q318
    refine q319.q (.pointer (some ⟨h2, 0 + 0, none⟩)) (fun v hv => ex_ix rfl (q319.e (j := 77) rfl) (q319.e (j := 78) rfl) (ixNN h2 0 1 k2 0 (by decide) _)) fun _ q320 => ?_;clear q319
    refine q320.q (.slice a2 M.length c2) (fun v hv => ex_ld rfl (q320.e (j := 79) rfl) (ldN1 (G3.later hv).e2)) fun _ q321 => ?_;clear q320
    refine vq_call18 (true) (.bool true) (want_none rfl) (fun hc v hv => ex_call rfl (by simp only [List.map_toArray, List.map_cons, List.map_nil, (q321.e (j := 73) rfl), (q321.e (j := 80) rfl), evc] <;> rfl) rfl) (fun hc v hv => bel18 hv (sameInts18 M a1 a2 c1 c2 v (G3.later hv).s1 (G3.later hv).s2 hbm) hv.size) rfl q321.z (by decide) (q321.k fun _ q322 => ?_);clear q321
    refine q322.q (.bool false) (fun v hv => ex_not rfl (q322.e (j := 81) rfl)) fun _ q323 => ?_;clear q322
    refine vq_nil (fun x1 hx1 => ?_)
    have q324 := ((((Rp.nil q323.z).cons (q323.a 0 rfl)).cons (q323.a 5 rfl)).cons (q323.a 82 rfl))
    clear q323
    go_upto_region 13 with fail
    refine wp_cond_false (q324.e (j := 82) rfl) ?_
    go_upto_region 13 with fail
    refine wp_region_lit ?_
    refine q324.t (.int .i64 ((0 : Nat) : Int)) (ex_move rfl (q324.e (j := 5) rfl)) fun _ q325 => ?_;clear q324
    refine q325.t (.int .i64 ((0 + 1 : Nat) : Int)) (ex_bin rfl (q325.e (j := 65) rfl) rfl (add1C _ _ 0 (by omega) _)) fun _ q326 => ?_;clear q325
    refine q326.t (.int .i64 ((0 + 1 : Nat) : Int)) (ex_assign rfl (q326.e (j := 66) rfl)) fun _ q327 => ?_;clear q326
    have q328 := (((Rp.nil q327.z).cons (q327.a 0 rfl)).cons (q327.a 5 rfl))
    clear q327
    refine wpList_nil ?_
    exact ⟨_, rfl, by omega, q328, b3.trans (hx1.mono b3.size)⟩
  · obtain rfl : j3 = 1 := by omega
    go_upto_region 12 with fail
    refine wp_region_lit ?_
    refine q300.t (.int .i64 ((1 : Nat) : Int)) (ex_move rfl (q300.e (j := 5) rfl)) fun _ q301 => ?_;clear q300
    refine q301.t (.pointer (some ⟨q, 0, none⟩)) (ex_move rfl (q301.e (j := 0) rfl)) fun _ q302 => ?_;clear q301
    refine q302.t (.pointer (some ⟨q, 0, none⟩)) (ex_nil rfl (q302.e (j := 59) rfl)) fun _ q303 => ?_;clear q302
    refine q303.t (.pointer (some ⟨q, 6, none⟩)) (ex_fa rfl (q303.e (j := 60) rfl) (faG q 6 (by decide) _)) fun _ q304 => ?_;clear q303
    refine q304.t (.slice (some ⟨h1, 0, none⟩) 1 k1) (ex_ld rfl (q304.e (j := 61) rfl) (ldNN ((B3.cell 6).trans rfl))) fun _ q305 => ?_;clear q304
    refine q305.t (.int .i64 ((1 : Nat) : Int)) (ex_lenG rfl rfl Try.underlying46 (q305.e (j := 62) rfl)) fun _ q306 => ?_;clear q305
    refine q306.t (.bool false) (ex_bin rfl (q306.e (j := 58) rfl) (q306.e (j := 63) rfl) (ltF _ _ (by omega) _)) fun _ q307 => ?_;clear q306
    refine wpList_nil ?_
    go_upto_region 16 with fail
    refine wp_cond_false (q307.e (j := 64) rfl) ?_
    go_upto_region 16 with fail
    refine wp_region_lit ?_
    refine q307.t (.int .i64 ((0 : Nat) : Int)) (ex_assign rfl rfl) fun _ q308 => ?_;clear q307
    have q309 := (((Rp.nil q308.z).cons (q308.a 0 rfl)).cons (q308.a 6 rfl))
    clear q308
    refine wpList_nil ?_
    go_upto_region 17 with fail
    refine v_loop 6 0 (fun j T wr => Rp T 133 [(6, gw true (.int .i64 (j : Int))), (0, gw true (.pointer (some ⟨q, 0, none⟩)))] ∧ Hid (Below w.heap.size w wr)) (fun j T w h => h.1.a 6 rfl) ⟨q309, b3⟩ ?_
    clear q309
    intro j4 T4 r4 hj4 hh4
    obtain ⟨q400, HJ4⟩ := hh4
    have b4 := HJ4.out
    clear HJ4
    have G4 := hG.later b4
    have B4 := G4.bb
    obtain rfl : j4 = 0 := by omega
    go_upto_region 17 with fail
    refine wp_region_lit ?_
    refine q400.t (.int .i64 ((0 : Nat) : Int)) (ex_move rfl (q400.e (j := 6) rfl)) fun _ q401 => ?_;clear q400
    refine q401.t (.pointer (some ⟨q, 0, none⟩)) (ex_move rfl (q401.e (j := 0) rfl)) fun _ q402 => ?_;clear q401
    refine q402.t (.pointer (some ⟨q, 0, none⟩)) (ex_nil rfl (q402.e (j := 84) rfl)) fun _ q403 => ?_;clear q402
    refine q403.t (.pointer (some ⟨q, 2, none⟩)) (ex_fa rfl (q403.e (j := 85) rfl) (faG q 2 (by decide) _)) fun _ q404 => ?_;clear q403
    refine q404.t (.slice none 0 0) (ex_ld rfl (q404.e (j := 86) rfl) (ldG2 ((B4.cell 2).trans rfl))) fun _ q405 => ?_;clear q404
    refine q405.t (.int .i64 ((0 : Nat) : Int)) (ex_lenG rfl rfl Try.underlying44 (q405.e (j := 87) rfl)) fun _ q406 => ?_;clear q405
    refine q406.t (.bool false) (ex_bin rfl (q406.e (j := 83) rfl) (q406.e (j := 88) rfl) (ltF _ _ (by omega) _)) fun _ q407 => ?_;clear q406
    refine wpList_nil ?_
    go_upto_region 21 with fail
    refine wp_cond_false (q407.e (j := 89) rfl) ?_
    go_upto_region 21 with fail
    refine wp_region_lit ?_
    refine q407.t (.int .i64 ((0 : Nat) : Int)) (ex_assign rfl rfl) fun _ q408 => ?_;clear q407
    have q409 := (((Rp.nil q408.z).cons (q408.a 0 rfl)).cons (q408.a 7 rfl))
    clear q408
    refine wpList_nil ?_
    go_upto_region 22 with fail
    refine v_loop 7 0 (fun j T wr => Rp T 133 [(7, gw true (.int .i64 (j : Int))), (0, gw true (.pointer (some ⟨q, 0, none⟩)))] ∧ Hid (Below w.heap.size w wr)) (fun j T w h => h.1.a 7 rfl) ⟨q409, b4⟩ ?_
    clear q409
    intro j5 T5 r5 hj5 hh5
    obtain ⟨q500, HJ5⟩ := hh5
    have b5 := HJ5.out
    clear HJ5
    have G5 := hG.later b5
    have B5 := G5.bb
    obtain rfl : j5 = 0 := by omega
    go_upto_region 22 with fail
    refine wp_region_lit ?_
    refine q500.t (.int .i64 ((0 : Nat) : Int)) (ex_move rfl (q500.e (j := 7) rfl)) fun _ q501 => ?_;clear q500
    refine q501.t (.pointer (some ⟨q, 0, none⟩)) (ex_move rfl (q501.e (j := 0) rfl)) fun _ q502 => ?_;clear q501
    refine q502.t (.pointer (some ⟨q, 0, none⟩)) (ex_nil rfl (q502.e (j := 109) rfl)) fun _ q503 => ?_;clear q502
    refine q503.t (.pointer (some ⟨q, 4, none⟩)) (ex_fa rfl (q503.e (j := 110) rfl) (faG q 4 (by decide) _)) fun _ q504 => ?_;clear q503
    refine q504.t (.slice none 0 0) (ex_ld rfl (q504.e (j := 111) rfl) (ldG4 ((B5.cell 4).trans rfl))) fun _ q505 => ?_;clear q504
    refine q505.t (.int .i64 ((0 : Nat) : Int)) (ex_lenG rfl rfl Try.underlying45 (q505.e (j := 112) rfl)) fun _ q506 => ?_;clear q505
    refine q506.t (.bool false) (ex_bin rfl (q506.e (j := 108) rfl) (q506.e (j := 113) rfl) (ltF _ _ (by omega) _)) fun _ q507 => ?_;clear q506
    refine wpList_nil ?_
    go_upto_region 26 with fail
    refine wp_cond_false (q507.e (j := 114) rfl) ?_
    go_upto_region 26 with fail
    refine wp_region_lit ?_
    refine q507.t (.bool true) (ex_assign rfl rfl) fun _ q508 => ?_;clear q507
    refine wpList_nil ?_
    go_wp2
    refine bodyPost_ret (results_tmp rfl _ _ _) rfl ⟨?_, b5⟩
    rw [getD_of (q508.a 2 rfl)]
    rfl
end Go.Proofs.Ytjkleldoeojbbaa
