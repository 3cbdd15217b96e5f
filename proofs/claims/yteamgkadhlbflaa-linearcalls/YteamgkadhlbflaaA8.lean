import Derived.Test.YteamgkadhlbflaaA7
set_option maxRecDepth 100000
set_option linter.unusedVariables false
set_option linter.unusedSimpArgs false
namespace Go.Proofs.Yteamgkadhlbflaa
open Go.RowKit Go.Maps
open Classical
/-! The notes: the calls so far, and the place of each. -/
def pF (l : List Kl) (k : Int × Int) : Option Value := if 0 ≤ plc70 k.1 k.2 l 0 then some (.int .i64 (plc70 k.1 k.2 l 0)) else none
theorem plc70_snoc (c n : Int) (x : Kl) : ∀ (l : List Kl) (i : Nat), plc70 c n (l ++ [x]) i = if 0 ≤ plc70 c n l i then plc70 c n l i else if x.c = c ∧ x.n = n then ((i + l.length : Nat) : Int) else -1
  | [], i => by simp [plc70]
  | y :: r, i => by
    show (if y.c = c ∧ y.n = n then (i : Int) else plc70 c n (r ++ [x]) (i + 1)) = _
    rw [plc70_snoc c n x r (i + 1)]
    show _ = if 0 ≤ (if y.c = c ∧ y.n = n then (i : Int) else plc70 c n r (i + 1)) then (if y.c = c ∧ y.n = n then (i : Int) else plc70 c n r (i + 1)) else if x.c = c ∧ x.n = n then ((i + (r.length + 1) : Nat) : Int) else -1
    by_cases h : y.c = c ∧ y.n = n
    · rw [if_pos h, if_pos h, if_pos (by omega)]
    · rw [if_neg h, if_neg h]
      congr 2
      rw [show i + 1 + r.length = i + (r.length + 1) from by omega]
theorem plc70_set {c n : Int} {x y : Kl} (h1 : y.c = x.c) (h2 : y.n = x.n) : ∀ (l : List Kl) (k i : Nat), l[k]? = some x → plc70 c n (l.set k y) i = plc70 c n l i
  | [], k, i, h => by cases h
  | z :: r, 0, i, h => by
    obtain rfl : z = x := Option.some.inj h
    show (if y.c = c ∧ y.n = n then (i : Int) else plc70 c n r (i + 1)) = if z.c = c ∧ z.n = n then (i : Int) else plc70 c n r (i + 1)
    rw [h1, h2]
  | z :: r, k + 1, i, h => by
    show (if z.c = c ∧ z.n = n then (i : Int) else plc70 c n (r.set k y) (i + 1)) = if z.c = c ∧ z.n = n then (i : Int) else plc70 c n r (i + 1)
    rw [plc70_set h1 h2 r k (i + 1) h]
theorem pF_snoc {l : List Kl} {x : Kl} {g : Int × Int → Option Value} (hp : ¬ 0 ≤ plc70 x.c x.n l 0) (g0 : g (x.c, x.n) = some (.int .i64 (l.length : Int))) (g1 : ∀ k, k ≠ (x.c, x.n) → g k = pF l k) (k : Int × Int) : pF (l ++ [x]) k = g k := by
  unfold pF
  rw [plc70_snoc]
  by_cases e : k = (x.c, x.n)
  · subst e
    dsimp only
    rw [if_neg hp, if_pos (show x.c = x.c ∧ x.n = x.n from ⟨rfl, rfl⟩), Nat.zero_add, if_pos (by omega)]
    exact g0.symm
  · rw [g1 k e]
    unfold pF
    by_cases h : 0 ≤ plc70 k.1 k.2 l 0
    · rw [if_pos h]
    · have hn : ¬ (x.c = k.1 ∧ x.n = k.2) := fun h9 => e (by rw [h9.1, h9.2])
      rw [if_neg h, if_neg hn, if_neg h, if_neg (by omega)]
theorem pF_set {l : List Kl} {x y : Kl} (h1 : y.c = x.c) (h2 : y.n = x.n) {k : Nat} (h : l[k]? = some x) : pF (l.set k y) = pF l := by
  funext z
  unfold pF
  rw [plc70_set h1 h2 l k 0 h]
theorem pF_at {l : List Kl} {c n : Int} (h : 0 ≤ plc70 c n l 0) : pF l (c, n) = some (.int .i64 (plc70 c n l 0)) := if_pos h
theorem pF_no {l : List Kl} {c n : Int} (h : ¬ 0 ≤ plc70 c n l 0) : pF l (c, n) = none := if_neg h
structure NB (w : World) (B q : Nat) (v : Value) (m k : Nat) (l : List Kl) : Prop where
  box : BB w q 87 [v, .map (some m)]
  own : OwnY yK B w v l
  map : MapG zRq w m k (pF l)
  few : k ≤ l.length
  bq : B ≤ q
  bm : B ≤ m
section
variable {w : World} {B q : Nat} {v : Value} {m k : Nat} {l : List Kl}
theorem NB.nq (h : NB w B q v m k l) : ∀ g, v.ownBlock = some g → g ≠ q := fun g e1 e2 => by
  obtain ⟨c, f, hc⟩ := h.own.kind e1
  have hb := h.box
  subst e2
  unfold BB at hb
  rw [hb] at hc
  injection hc with hc
  injection hc with _ hT _
  exact absurd hT (by decide)
theorem NB.nm (h : NB w B q v m k l) : ∀ g, v.ownBlock = some g → g ≠ m := fun g e1 e2 => by
  obtain ⟨es, c, hm⟩ := h.map.isMap
  exact h.own.not_map e1 es c (by rw [e2]; exact hm)
theorem NB.mq (h : NB w B q v m k l) : m ≠ q := fun e => by
  obtain ⟨es, c, hm⟩ := h.map.isMap
  have hb := h.box
  subst e
  unfold BB at hb
  rw [hb] at hm
  cases hm
theorem NB.later {w' : World} (h : NB w B q v m k l) (hb : Below w.heap.size w w') : NB w' B q v m k l := ⟨h.box.later hb, h.own.grow hb, h.map.later hb, h.few, h.bq, h.bm⟩
end
theorem faNt0 (q : Nat) (w : World) : (Instr.fieldAt 87 (.pointer (some ⟨q, 0, none⟩)) 0).run Try.prog w = .ok (.pointer (some ⟨q, 0, none⟩)) w := by go_simp
theorem faNt1 (q : Nat) (w : World) : (Instr.fieldAt 87 (.pointer (some ⟨q, 0, none⟩)) 1).run Try.prog w = .ok (.pointer (some ⟨q, 1, none⟩)) w := by go_simp
theorem ldNtM {w : World} {q : Nat} {v : Value} {m : Nat} (h : BB w q 87 [v, .map (some m)]) : (Instr.loadAt 85 (.pointer (some ⟨q, 1, none⟩))).run Try.prog w = .ok (.map (some m)) w := by
  have hc : w.cell? ⟨q, 1, none⟩ = some (.map (some m)) := by rw [h.cell]; rfl
  go_simp
theorem ldNtS {w : World} {q : Nat} {a : Option Addr} {n c : Nat} {u : Value} (h : BB w q 87 [.slice a n c, u]) : (Instr.loadAt 24 (.pointer (some ⟨q, 0, none⟩))).run Try.prog w = .ok (.slice a n c) w := ldSlK (by rw [h.cell]; rfl)
theorem stNtS {w : World} {q : Nat} {u u2 : Value} {a : Option Addr} {n c : Nat} (h : BB w q 87 [u, u2]) : (Instr.storeAt 24 (.pointer (some ⟨q, 0, none⟩)) (.slice a n c)).run Try.prog w = .ok () (w.setCell ⟨q, 0, none⟩ (.slice a n c)) := by
  have hc : w.cell? ⟨q, 0, none⟩ = some u := by rw [h.cell]; rfl
  have hf := h.free 0
  go_simp
theorem bxE76 (x : En18) (w : World) : (Instr.box 76 x.val).run Try.prog w = .ok (.pointer (some ⟨w.heap.size, 0, none⟩)) (w.alloc (.cells x.cs.toArray 76)) := rfl
theorem bxR76 (r : Rs) (w : World) : (Instr.box 43 (rV r)).run Try.prog w = .ok (.pointer (some ⟨w.heap.size, 0, none⟩)) (w.alloc (.cells (rsC r).toArray 43)) := rfl
def rqC (c n : Int) : List Value := [.int .i64 c, .int .i64 n]
theorem alRq (w : World) : (Instr.alloc 100 true (.tuple #[])).run Try.prog w = .ok (.pointer (some ⟨w.heap.size, 0, none⟩)) (w.alloc (.cells (rqC 0 0).toArray 100)) := by kernel_rfl
theorem info2rq : (Try.prog.info? 100).map (·.size) = some 2 := by kernel_rfl
theorem oneRq (c n : Int) : (rqC c n).toArray.all (·.oneCell') = true := by
  rw [Array.all_eq_true_iff_forall_mem]
  intro u hu
  simp only [rqC, List.mem_toArray, List.mem_cons, List.not_mem_nil, or_false] at hu
  rcases hu with rfl | rfl <;> rfl
theorem BB.stRq {w : World} {q : Nat} {T : TypeId} {cs : List Value} (h : BB w q T cs) (hl : cs.length = 2) (c n : Int) : (Instr.storeAt 100 (.pointer (some ⟨q, 0, none⟩)) (.agg #[.int .i64 c, .int .i64 n])).run Try.prog w = .ok () (w.setCells q 0 (rqC c n)) := h.st 100 (rqC c n) (by rw [hl]; rfl) info2rq (oneRq c n)
theorem BB.ldRq {w : World} {q : Nat} {T : TypeId} {c n : Int} (h : BB w q T (rqC c n)) : (Instr.loadAt 100 (.pointer (some ⟨q, 0, none⟩))).run Try.prog w = .ok (.agg #[.int .i64 c, .int .i64 n]) w := h.ld 100 Try.underlying100 rfl info2rq
theorem look76 {w : World} {m k : Nat} {l : List Kl} (h : MapG zRq w m k (pF l)) {c n : Int} (hk : zRq.ok (c, n)) : (Instr.lookup 85 (.map (some m)) (.agg #[.int .i64 c, .int .i64 n]) true).run Try.prog w = .ok (.tuple #[((pF l (c, n)).getD (.int .i64 0)), .bool (pF l (c, n)).isSome]) w :=
  h.look kRq true (t := 85) Try.underlying85 (z := .int .i64 0) (by kernel_rfl) hk
set_option maxHeartbeats 2000000 in
theorem asked18 (x : Sn) (j : Nat) (l : List Kl) (B q m k : Nat) (v : Value) (w : World) (hN : NB w B q v m k l) (hk : x.kd = 1) (hf : x.en.o.fits) (hkk : zRq.ok (x.en.c, x.en.n)) (hl : l.length ≤ 703687441776) :
    Calls Try.prog 26 #[.pointer (some ⟨q, 0, none⟩), .int .i64 (j : Int), x.en.val] w fun e w' => ∃ (E : Int) (l' : List Kl), e = .returned (.int .i64 E) ∧ (E ≠ 0 → ∀ r, cls (x :: r) j l = ([], E)) ∧ (E = 0 → (∀ r, cls (x :: r) j l = cls r (j + 1) l') ∧ (∃ v' k', NB w' B q v' m k' l') ∧ l'.length ≤ l.length + 1) ∧ Below B w w' := by
  obtain ⟨av, cv, hv, _, _, _, _⟩ := hN.own.form
  subst hv
  have hvb : ∀ g, Value.ownBlock (.slice av l.length cv) = some g → g < w.heap.size := fun g hg => (hN.own.blk g hg).2
  have hqw := hN.box.lt
  have hmw := hN.map.lt
  have hB : B ≤ w.heap.size := Nat.le_trans hN.bq (Nat.le_of_lt hqw)
  obtain ⟨ab, hab⟩ : ∃ b, b = askB x.en.c x.en.n x.en.o := ⟨_, rfl⟩
  go_enter Try.func26, Try.ntmps26
  go_upto_region 0 with fail
  refine wp_region_lit ?_
  refine vl_gen (fun T => Rp T 52 [(2, gw true (x.en.val)), (1, gw true (.int .i64 ((j : Nat) : Int))), (0, gw true (.pointer (some ⟨q, 0, none⟩)))]) ((((Rp.nil rfl).cons rfl).cons rfl).cons rfl) (fun Z0 q0 => ?_)
  obtain ⟨w1, hw1⟩ : ∃ y, y = w.alloc (.cells x.en.cs.toArray 76) := ⟨_, rfl⟩
  refine vw (.pointer (some ⟨w.heap.size, 0, none⟩)) w1 (want_none rfl) (ex_box18 rfl (q0.e (j := 2) rfl) (by rw [hw1]; exact bxE76 _ _)) rfl q0.z (by decide) (q0.k fun _ q1 => ?_);clear q0
  have Be : BB w1 w.heap.size 76 x.en.cs := by rw [hw1]; exact BB.new _ _ _
  have b1 : Below w.heap.size w w1 := by rw [hw1]; exact (Below.refl _ _).alloc (Nat.le_refl _) _
  have y1 : w1.heap.size = w.heap.size + 1 := by rw [hw1]; exact World.size_alloc _ _
  clear hw1
  refine q1.t (.int .i64 (0)) (ex_assign rfl rfl) fun _ q2 => ?_;clear q1
  refine wpList_nil ?_
  go_upto_region 1 with fail
  refine wp_region_lit ?_
  refine q2.t (x.en.val) (ex_ld rfl (q2.e (j := 5) rfl) Be.ldE) fun _ q3 => ?_;clear q2
  refine vcallP (want_none rfl) (ex_call rfl (by simp only [List.map_toArray, List.map_cons, List.map_nil, (q3.e (j := 10) rfl), evc] <;> rfl) rfl) (show Calls Try.prog _ _ w1 (fun e w' => e = .returned (.bool ab) ∧ Below w1.heap.size w1 w') from by rw [hab]; exact mayBeAsked_any x.en.c x.en.n x.en.o.k x.en.o.s x.en.o.v hf w1) rfl q3.z (by decide) ?_
  rintro e w2 ⟨rfl, b2⟩
  refine ⟨_, rfl, q3.k fun _ q4 => ?_⟩;clear q3
  have y2 := b2.size
  have d2 : Below B w w2 := (b1.mono hB).trans (b2.mono (by omega))
  cases ab
  · refine q4.t (.bool true) (ex_not rfl (q4.e (j := 11) rfl)) fun _ q5 => ?_;clear q4
    refine wpList_nil ?_
    go_upto_region 2 with fail
    refine wp_cond_true (q5.e (j := 12) rfl) ?_
    go_upto_region 2 with fail
    refine wp_region_lit ?_
    refine q5.t (.int .i64 (180)) (ex_assign rfl rfl) fun _ q6 => ?_;clear q5
    refine wpList_nil ?_
    go_wp2
    refine bodyPost_ret (results_tmp rfl _ _ _) rfl ?_
    rw [getD_of (q6.a 6 rfl)]
    exact ⟨180, [], rfl, fun _ r => by rw [cls_cons, if_pos hk, if_pos hab.symm], fun h => absurd h (by decide), d2⟩
  · refine q4.t (.bool false) (ex_not rfl (q4.e (j := 11) rfl)) fun _ q5 => ?_;clear q4
    refine wpList_nil ?_
    go_upto_region 3 with fail
    refine wp_cond_false (q5.e (j := 12) rfl) ?_
    go_upto_region 3 with fail
    refine wp_region_lit ?_
    refine q5.t (x.en.val) (ex_ld rfl (q5.e (j := 5) rfl) (Be.later b2).ldE) fun _ q6 => ?_;clear q5
    refine vcallP (want_none rfl) (ex_call rfl (by simp only [List.map_toArray, List.map_cons, List.map_nil, (q6.e (j := 13) rfl), evc] <;> rfl) rfl) (requestOf_any x.en.c x.en.n x.en.o.k x.en.o.s x.en.o.v w2) rfl q6.z (by decide) ?_
    rintro e w3 ⟨rfl, b3⟩
    refine ⟨_, rfl, q6.k fun _ q7 => ?_⟩;clear q6
    have y3 := b3.size
    obtain ⟨w4, hw4⟩ : ∃ y, y = w3.alloc (.cells (rqC 0 0).toArray 100) := ⟨_, rfl⟩
    refine vw (.pointer (some ⟨w3.heap.size, 0, none⟩)) w4 (want_none rfl) (ex_al rfl (by rw [hw4]; exact alRq _)) rfl q7.z (by decide) (q7.k fun _ q8 => ?_);clear q7
    have Br0 : BB w4 w3.heap.size 100 (rqC 0 0) := by rw [hw4]; exact BB.new _ _ _
    have b4 : Below w3.heap.size w3 w4 := by rw [hw4]; exact (Below.refl _ _).alloc (Nat.le_refl _) _
    have y4 : w4.heap.size = w3.heap.size + 1 := by rw [hw4]; exact World.size_alloc _ _
    clear hw4
    obtain ⟨w5, hw5⟩ : ∃ y, y = w4.setCells w3.heap.size 0 (rqC x.en.c x.en.n) := ⟨_, rfl⟩
    refine vs w5 (want_none rfl) (ex_st rfl (q8.e (j := 7) rfl) (q8.e (j := 14) rfl) (by rw [hw5]; exact Br0.stRq rfl _ _)) rfl ?_
    have Br : BB w5 w3.heap.size 100 (rqC x.en.c x.en.n) := by rw [hw5]; exact Br0.whole _ rfl
    have u5 : Upd (fun k => k = w3.heap.size) w4 w5 := by rw [hw5]; exact upd18 _ _ _ _
    clear hw5 Br0
    have y5 := u5.size
    have b5 : Below w3.heap.size w3 w5 := b4.trans (bel_ge u5 (by omega) (by omega))
    have b25 : Below w1.heap.size w1 w5 := b2.trans ((b3.trans (b5.mono (by omega))).mono (by omega))
    have b05 : Below w.heap.size w w5 := b1.trans (b25.mono (by omega))
    replace Be := Be.later b25
    replace hN := hN.later b05
    have d5 := b05.mono hB
    clear b1 b2 b3 b4 b5 b25 b05 u5
    have q9 := ((((((Rp.nil q8.z).cons (q8.a 0 rfl)).cons (q8.a 1 rfl)).cons (q8.a 5 rfl)).cons (q8.a 6 rfl)).cons (q8.a 7 rfl))
    clear q8
    refine wpList_nil ?_
    by_cases hp : 0 ≤ plc70 x.en.c x.en.n l 0
    · go_upto_region 4 with fail
      refine vq_start (C := fun v => v = w5.drew) (by kernel_rfl) (by kernel_rfl) rfl ?_
      have hd : Below w5.heap.size w5 w5.drew := (Below.refl _ _).drew
      have hzd : w5.drew.heap.size = w5.heap.size := rfl
      generalize w5.drew = d at *
      replace Be := Be.later hd
      replace hN := hN.later hd
      replace Br := Br.later hd
      replace d5 := d5.trans (hd.mono (by omega))
      have hlk := look76 hN.map hkk
      rw [pF_at hp] at hlk
      refine q9.q (.pointer (some ⟨q, 0, none⟩)) (fun v hv => ex_move rfl (q9.e (j := 0) rfl)) fun _ q10 => ?_;clear q9
      refine q10.q (.pointer (some ⟨q, 0, none⟩)) (fun v hv => ex_nil rfl (q10.e (j := 16) rfl)) fun _ q11 => ?_;clear q10
      refine q11.q (.pointer (some ⟨q, 1, none⟩)) (fun v hv => ex_fa rfl (q11.e (j := 17) rfl) (faNt1 _ _)) fun _ q12 => ?_;clear q11
      refine q12.q (.map (some m)) (fun v hv => by subst hv; exact ex_ld rfl (q12.e (j := 18) rfl) (ldNtM hN.box)) fun _ q13 => ?_;clear q12
      refine q13.q (.agg #[.int .i64 x.en.c, .int .i64 x.en.n]) (fun v hv => by subst hv; exact ex_ld rfl (q13.e (j := 7) rfl) Br.ldRq) fun _ q14 => ?_;clear q13
      refine q14.q (.tuple #[.int .i64 (plc70 x.en.c x.en.n l 0), .bool true]) (fun v hv => by subst hv; exact ex_look18 rfl (q14.e (j := 19) rfl) (q14.e (j := 20) rfl) hlk) fun _ q15 => ?_;clear q14
      refine q15.q (.tuple #[.int .i64 (plc70 x.en.c x.en.n l 0), .bool true]) (fun v hv => ex_move rfl (q15.e (j := 21) rfl)) fun _ q16 => ?_;clear q15
      refine q16.q (.int .i64 (plc70 x.en.c x.en.n l 0)) (fun v hv => ex_ext18 rfl (q16.e (j := 15) rfl) rfl) fun _ q17 => ?_;clear q16
      refine q17.q (.bool true) (fun v hv => ex_ext18 rfl (q17.e (j := 15) rfl) rfl) fun _ q18 => ?_;clear q17
      refine q18.q (.int .i64 (plc70 x.en.c x.en.n l 0)) (fun v hv => ex_assign rfl (q18.e (j := 22) rfl)) fun _ q19 => ?_;clear q18
      refine q19.q (.bool true) (fun v hv => ex_assign rfl (q19.e (j := 23) rfl)) fun _ q20 => ?_;clear q19
      refine vq_nil (fun r1 hr1 => ?_)
      subst hr1
      go_upto_region 5 with fail
      go_upto_region 5 with fail
      refine wp_region_lit ?_
      refine q20.t (.bool true) (ex_move rfl (q20.e (j := 9) rfl)) fun _ q21 => ?_;clear q20
      refine wpList_nil ?_
      go_upto_region 6 with fail
      refine wp_cond_true (q21.e (j := 24) rfl) ?_
      go_upto_region 6 with fail
      refine wp_region_lit ?_
      refine q21.t (.int .i64 (160)) (ex_assign rfl rfl) fun _ q22 => ?_;clear q21
      refine wpList_nil ?_
      go_wp2
      refine bodyPost_ret (results_tmp rfl _ _ _) rfl ?_
      rw [getD_of (q22.a 6 rfl)]
      exact ⟨160, [], rfl, fun _ r => by rw [cls_cons, if_pos hk, if_neg (by rw [← hab]; decide), if_pos hp], fun h => absurd h (by decide), d5⟩
    · have hp3 : ¬ 0 ≤ plc70 x.en.c x.en.n l 0 := by omega
      go_upto_region 4 with fail
      refine vq_start (C := fun v => v = w5.drew) (by kernel_rfl) (by kernel_rfl) rfl ?_
      have hd : Below w5.heap.size w5 w5.drew := (Below.refl _ _).drew
      have hzd : w5.drew.heap.size = w5.heap.size := rfl
      generalize w5.drew = d at *
      replace Be := Be.later hd
      replace hN := hN.later hd
      replace Br := Br.later hd
      replace d5 := d5.trans (hd.mono (by omega))
      have hlk := look76 hN.map hkk
      rw [pF_no hp] at hlk
      refine q9.q (.pointer (some ⟨q, 0, none⟩)) (fun v hv => ex_move rfl (q9.e (j := 0) rfl)) fun _ q10 => ?_;clear q9
      refine q10.q (.pointer (some ⟨q, 0, none⟩)) (fun v hv => ex_nil rfl (q10.e (j := 16) rfl)) fun _ q11 => ?_;clear q10
      refine q11.q (.pointer (some ⟨q, 1, none⟩)) (fun v hv => ex_fa rfl (q11.e (j := 17) rfl) (faNt1 _ _)) fun _ q12 => ?_;clear q11
      refine q12.q (.map (some m)) (fun v hv => by subst hv; exact ex_ld rfl (q12.e (j := 18) rfl) (ldNtM hN.box)) fun _ q13 => ?_;clear q12
      refine q13.q (.agg #[.int .i64 x.en.c, .int .i64 x.en.n]) (fun v hv => by subst hv; exact ex_ld rfl (q13.e (j := 7) rfl) Br.ldRq) fun _ q14 => ?_;clear q13
      refine q14.q (.tuple #[.int .i64 0, .bool false]) (fun v hv => by subst hv; exact ex_look18 rfl (q14.e (j := 19) rfl) (q14.e (j := 20) rfl) hlk) fun _ q15 => ?_;clear q14
      refine q15.q (.tuple #[.int .i64 0, .bool false]) (fun v hv => ex_move rfl (q15.e (j := 21) rfl)) fun _ q16 => ?_;clear q15
      refine q16.q (.int .i64 0) (fun v hv => ex_ext18 rfl (q16.e (j := 15) rfl) rfl) fun _ q17 => ?_;clear q16
      refine q17.q (.bool false) (fun v hv => ex_ext18 rfl (q17.e (j := 15) rfl) rfl) fun _ q18 => ?_;clear q17
      refine q18.q (.int .i64 0) (fun v hv => ex_assign rfl (q18.e (j := 22) rfl)) fun _ q19 => ?_;clear q18
      refine q19.q (.bool false) (fun v hv => ex_assign rfl (q19.e (j := 23) rfl)) fun _ q20 => ?_;clear q19
      refine vq_nil (fun r1 hr1 => ?_)
      subst hr1
      go_upto_region 5 with fail
      go_upto_region 5 with fail
      refine wp_region_lit ?_
      refine q20.t (.bool false) (ex_move rfl (q20.e (j := 9) rfl)) fun _ q21 => ?_;clear q20
      refine wpList_nil ?_
      go_upto_region 7 with fail
      refine wp_cond_false (q21.e (j := 24) rfl) ?_
      go_upto_region 7 with fail
      refine vg_start (fun k => k == 10) (fun v => v = r1.drew) (by kernel_rfl) ?_
      have hd2a : Below r1.heap.size r1 r1.drew := (Below.refl _ _).drew
      have hzd2a : r1.drew.heap.size = r1.heap.size := rfl
      generalize r1.drew = d2a at *
      replace Be := Be.later hd2a
      replace hN := hN.later hd2a
      replace Br := Br.later hd2a
      replace d5 := d5.trans (hd2a.mono (by omega))
      refine vg_takeW 0 true (.pointer (some ⟨q, 0, none⟩)) rfl (by kernel_rfl) (by kernel_rfl) (by kernel_rfl) (by kernel_rfl) (want_none rfl) (fun hc v => ex_move rfl (q21.e (j := 0) rfl)) rfl q21.z (by decide) (fun _ => rfl) (q21.k fun _ q22 => ?_);clear q21
      refine vg_takeW 1 true (.pointer (some ⟨q, 0, none⟩)) rfl (by kernel_rfl) (by kernel_rfl) (by kernel_rfl) (by kernel_rfl) (want_none rfl) (fun hc v => ex_nil rfl (q22.e (j := 25) rfl)) rfl q22.z (by decide) (fun _ => rfl) (q22.k fun _ q23 => ?_);clear q22
      refine vg_takeW 2 true (.pointer (some ⟨q, 1, none⟩)) rfl (by kernel_rfl) (by kernel_rfl) (by kernel_rfl) (by kernel_rfl) (want_none rfl) (fun hc v => ex_fa rfl (q23.e (j := 26) rfl) (faNt1 _ _)) rfl q23.z (by decide) (fun _ => rfl) (q23.k fun _ q24 => ?_);clear q23
      refine vg_take 3 true (.map (some m)) rfl (by kernel_rfl) (by kernel_rfl) (by kernel_rfl) (by kernel_rfl) (by kernel_rfl) (by kernel_rfl) (want_none rfl) (fun hc v hv => by subst hv; exact ex_ld rfl (q24.e (j := 27) rfl) (ldNtM hN.box)) rfl q24.z (by decide) rfl (q24.k fun _ q25 => ?_);clear q24
      refine vg_take 4 true (.agg #[.int .i64 x.en.c, .int .i64 x.en.n]) rfl (by kernel_rfl) (by kernel_rfl) (by kernel_rfl) (by kernel_rfl) (by kernel_rfl) (by kernel_rfl) (want_none rfl) (fun hc v hv => by subst hv; exact ex_ld rfl (q25.e (j := 7) rfl) Br.ldRq) rfl q25.z (by decide) rfl (q25.k fun _ q26 => ?_);clear q25
      refine vg_takeW 5 true (.pointer (some ⟨q, 0, none⟩)) rfl (by kernel_rfl) (by kernel_rfl) (by kernel_rfl) (by kernel_rfl) (want_none rfl) (fun hc v => ex_move rfl (q26.e (j := 0) rfl)) rfl q26.z (by decide) (fun _ => rfl) (q26.k fun _ q27 => ?_);clear q26
      refine vg_takeW 6 true (.pointer (some ⟨q, 0, none⟩)) rfl (by kernel_rfl) (by kernel_rfl) (by kernel_rfl) (by kernel_rfl) (want_none rfl) (fun hc v => ex_nil rfl (q27.e (j := 30) rfl)) rfl q27.z (by decide) (fun _ => rfl) (q27.k fun _ q28 => ?_);clear q27
      refine vg_takeW 7 true (.pointer (some ⟨q, 0, none⟩)) rfl (by kernel_rfl) (by kernel_rfl) (by kernel_rfl) (by kernel_rfl) (want_none rfl) (fun hc v => ex_fa rfl (q28.e (j := 31) rfl) (faNt0 _ _)) rfl q28.z (by decide) (fun _ => rfl) (q28.k fun _ q29 => ?_);clear q28
      refine vg_take 8 true (.slice av l.length cv) rfl (by kernel_rfl) (by kernel_rfl) (by kernel_rfl) (by kernel_rfl) (by kernel_rfl) (by kernel_rfl) (want_none rfl) (fun hc v hv => by subst hv; exact ex_ld rfl (q29.e (j := 32) rfl) (ldNtS hN.box)) rfl q29.z (by decide) rfl (q29.k fun _ q30 => ?_);clear q29
      refine vg_takeW 9 true (.int .i64 ((l.length : Nat) : Int)) rfl (by kernel_rfl) (by kernel_rfl) (by kernel_rfl) (by kernel_rfl) (want_none rfl) (fun hc v => ex_len18 rfl rfl (q30.e (j := 33) rfl)) rfl q30.z (by decide) (fun _ => rfl) (q30.k fun _ q31 => ?_);clear q30
      obtain ⟨w6, gm, hmu, g0, g1, hm6, gr6⟩ := hN.map.store kRq (Nat.lt_of_le_of_lt hN.few (by unfold maxLen; omega)) (t := 85) Try.underlying85 (x.en.c, x.en.n) hkk (.int .i64 ((l.length : Nat) : Int))
      have u6 := gupd63 gr6
      have y6 := u6.size
      refine vg_store 10 w6 rfl (by kernel_rfl) (by kernel_rfl) (want_none rfl) (ex_mu18 rfl (q31.e (j := 28) rfl) (q31.e (j := 29) rfl) (q31.e (j := 34) rfl) hmu) rfl ?_
      refine vg_done (by kernel_rfl) ?_
      have hqd := hN.box.lt
      have hmd := hN.map.lt
      have nq := hN.nq
      have nm := hN.nm
      have nmq := hN.mq
      have dw : w.heap.size ≤ d2a.heap.size := d5.size
      have B6 : BB w6 q 87 [.slice av l.length cv, .map (some m)] := hN.box.upd u6 (fun e => nmq (Option.some.inj e))
      have o6 : OwnY yK B w6 (.slice av l.length cv) l := hN.own.upd1 u6 (fun g hg e => nm g hg (Option.some.inj e).symm)
      have E6 : BB w6 w.heap.size 76 x.en.cs := Be.upd u6 (fun e => by have := Option.some.inj e; omega)
      have d6 : Below B w w6 := d5.trans (u6.below (by omega) (fun k hk => by have := Option.some.inj hk; have := hN.bm; omega))
      obtain ⟨kx, hkx⟩ : ∃ k : Kl, k = (⟨x.en.c, x.en.n, x.en.o, (j : Int), -1, (0, 0, ⟨#[]⟩)⟩ : Kl) := ⟨_, rfl⟩
      have hm6x : MapG zRq w6 m (k + 1) (pF (l ++ [kx])) := hm6.ext (fun z _ => pF_snoc (x := kx) (by rw [hkx]; exact Int.not_le.2 (by omega)) (by rw [hkx]; exact g0) (by rw [hkx]; exact g1) z)
      have hfew := hN.few
      have hbq := hN.bq
      have hbm := hN.bm
      clear hN Be Br hm6 g0 g1 hmu gr6 u6 hlk
      have q32 := (((((Rp.nil q31.z).cons (q31.a 0 rfl)).cons (q31.a 1 rfl)).cons (q31.a 5 rfl)).cons (q31.a 6 rfl))
      clear q31
      go_upto_region 8 with fail
      refine vg_start (fun k => k == 17) (fun v => BB v q 87 [.slice av l.length cv, .map (some m)] ∧ BB v w.heap.size 76 x.en.cs) (by kernel_rfl) ?_
      have hd3 : Below w6.heap.size w6 w6.drew := (Below.refl _ _).drew
      have hzd3 : w6.drew.heap.size = w6.heap.size := rfl
      generalize w6.drew = d3 at *
      have hS3 := And.intro (B6.later hd3) (E6.later hd3)
      refine vg_takeW 0 true (.pointer (some ⟨q, 0, none⟩)) rfl (by kernel_rfl) (by kernel_rfl) (by kernel_rfl) (by kernel_rfl) (want_none rfl) (fun hc v => ex_move rfl (q32.e (j := 0) rfl)) rfl q32.z (by decide) (fun _ => hS3) (q32.k fun _ q33 => ?_);clear q32
      refine vg_takeW 1 true (.pointer (some ⟨q, 0, none⟩)) rfl (by kernel_rfl) (by kernel_rfl) (by kernel_rfl) (by kernel_rfl) (want_none rfl) (fun hc v => ex_move rfl (q33.e (j := 0) rfl)) rfl q33.z (by decide) (fun _ => hS3) (q33.k fun _ q34 => ?_);clear q33
      refine vg_takeW 2 true (.pointer (some ⟨q, 0, none⟩)) rfl (by kernel_rfl) (by kernel_rfl) (by kernel_rfl) (by kernel_rfl) (want_none rfl) (fun hc v => ex_nil rfl (q34.e (j := 36) rfl)) rfl q34.z (by decide) (fun _ => hS3) (q34.k fun _ q35 => ?_);clear q34
      refine vg_takeW 3 true (.pointer (some ⟨q, 0, none⟩)) rfl (by kernel_rfl) (by kernel_rfl) (by kernel_rfl) (by kernel_rfl) (want_none rfl) (fun hc v => ex_fa rfl (q35.e (j := 37) rfl) (faNt0 _ _)) rfl q35.z (by decide) (fun _ => hS3) (q35.k fun _ q36 => ?_);clear q35
      refine vg_take 4 true (.slice av l.length cv) rfl (by kernel_rfl) (by kernel_rfl) (by kernel_rfl) (by kernel_rfl) (by kernel_rfl) (by kernel_rfl) (want_none rfl) (fun hc v hv => ex_ld rfl (q36.e (j := 38) rfl) (ldNtS hv.1)) rfl q36.z (by decide) hS3 (q36.k fun _ q37 => ?_);clear q36
      refine vg_takeW 5 true (.pointer (some ⟨w.heap.size, 0, none⟩)) rfl (by kernel_rfl) (by kernel_rfl) (by kernel_rfl) (by kernel_rfl) (want_none rfl) (fun hc v => ex_fa rfl (q37.e (j := 5) rfl) (faEn0 _ _)) rfl q37.z (by decide) (fun _ => hS3) (q37.k fun _ q38 => ?_);clear q37
      refine vg_take 6 true (.int .i64 (x.en.c)) rfl (by kernel_rfl) (by kernel_rfl) (by kernel_rfl) (by kernel_rfl) (by kernel_rfl) (by kernel_rfl) (want_none rfl) (fun hc v hv => ex_ld rfl (q38.e (j := 40) rfl) (ldI18 (by rw [hv.2.cell]; rfl))) rfl q38.z (by decide) hS3 (q38.k fun _ q39 => ?_);clear q38
      refine vg_takeW 7 true (.pointer (some ⟨w.heap.size, 1, none⟩)) rfl (by kernel_rfl) (by kernel_rfl) (by kernel_rfl) (by kernel_rfl) (want_none rfl) (fun hc v => ex_fa rfl (q39.e (j := 5) rfl) (faEn1 _ _)) rfl q39.z (by decide) (fun _ => hS3) (q39.k fun _ q40 => ?_);clear q39
      refine vg_take 8 true (.int .i64 (x.en.n)) rfl (by kernel_rfl) (by kernel_rfl) (by kernel_rfl) (by kernel_rfl) (by kernel_rfl) (by kernel_rfl) (want_none rfl) (fun hc v hv => ex_ld rfl (q40.e (j := 42) rfl) (ldI18 (by rw [hv.2.cell]; rfl))) rfl q40.z (by decide) hS3 (q40.k fun _ q41 => ?_);clear q40
      refine vg_takeW 9 true (.pointer (some ⟨w.heap.size, 2, none⟩)) rfl (by kernel_rfl) (by kernel_rfl) (by kernel_rfl) (by kernel_rfl) (want_none rfl) (fun hc v => ex_fa rfl (q41.e (j := 5) rfl) (faEn2 _ _)) rfl q41.z (by decide) (fun _ => hS3) (q41.k fun _ q42 => ?_);clear q41
      refine vg_take 10 true (oV x.en.o) rfl (by kernel_rfl) (by kernel_rfl) (by kernel_rfl) (by kernel_rfl) (by kernel_rfl) (by kernel_rfl) (want_none rfl) (fun hc v hv => ex_ld rfl (q42.e (j := 44) rfl) hv.2.ldEO) rfl q42.z (by decide) hS3 (q42.k fun _ q43 => ?_);clear q42
      refine vg_takeW 11 true (.int .i64 ((j : Nat) : Int)) rfl (by kernel_rfl) (by kernel_rfl) (by kernel_rfl) (by kernel_rfl) (want_none rfl) (fun hc v => ex_move rfl (q43.e (j := 1) rfl)) rfl q43.z (by decide) (fun _ => hS3) (q43.k fun _ q44 => ?_);clear q43
      refine vg_takeW 12 true (kx.val) rfl (by kernel_rfl) (by kernel_rfl) (by kernel_rfl) (by kernel_rfl) (want_none rfl) (fun hc v => ex_buildP18 (P := #[(0, .int .i64 (x.en.c)), (1, .int .i64 (x.en.n)), (2, oV x.en.o), (3, .int .i64 ((j : Int))), (4, .int .i64 (-1))]) rfl (by simp only [List.map_toArray, List.map_cons, List.map_nil, (q44.e (j := 41) rfl), (q44.e (j := 43) rfl), (q44.e (j := 45) rfl), (q44.e (j := 46) rfl), evc] <;> rfl) (by rw [hkx]; exact bdC62 _ _ _ _ _ _)) rfl q44.z (by decide) (fun _ => hS3) (q44.k fun _ q45 => ?_);clear q44
      obtain ⟨w7, hw7⟩ : ∃ y, y = d3.alloc (.cells kx.cs.toArray 45) := ⟨_, rfl⟩
      have b7 : Below d3.heap.size d3 w7 := by rw [hw7]; exact (Below.refl _ _).alloc (Nat.le_refl _) _
      have s7 : SlY yK w7 (some ⟨d3.heap.size, 0, none⟩) 1 1 [kx] := by rw [hw7]; exact sl_box (Y := yK) d3 kx 45
      have y7 := b7.size
      have b67 : Below w6.heap.size w6 w7 := hd3.trans (b7.mono (by omega))
      have hS7 := And.intro (hS3.1.later b7) (hS3.2.later b7)
      refine vg_val 13 (.slice (some ⟨d3.heap.size, 0, none⟩) 1 1) w7 rfl (by kernel_rfl) (want_none rfl) (ex_bs18 rfl (q45.e (j := 47) rfl) (by rw [hw7]; exact bsK18 _ _)) rfl q45.z (by decide) (fun _ => hS7) (q45.k fun _ q46 => ?_);clear q45
      clear hw7
      have o7 := o6.grow b67
      have B7 := B6.later b67
      have m7 := hm6x.later b67
      obtain ⟨v8, w8, ha8, o8, g8, h8⟩ := run_appY kK w7 24 B l (.slice av l.length cv) _ 1 1 [kx] s7 o7 (by omega) (by unfold maxLen; omega) (by show (l.length + 1) * 96 ≤ _; omega)
      have u8 := gupd63 g8
      have y8 := u8.size
      obtain ⟨a8, c8, hv8, _, _, _, _⟩ := o8.form
      have n8 : ∀ g, v8.ownBlock = some g → g ≠ q ∧ g ≠ m := fun g hg => by
        rcases h8 with h8 | ⟨k8, h8, h9⟩
        · exact ⟨nq g (h8 ▸ hg), nm g (h8 ▸ hg)⟩
        · rw [h8] at hg; have := Option.some.inj hg; exact ⟨by omega, by omega⟩
      have B8 : BB w8 q 87 [.slice av l.length cv, .map (some m)] := B7.upd u8 (fun e => nq q e rfl)
      have m8 := m7.upd u8 (fun e => nm m e rfl)
      have hS8 := And.intro B8 (hS7.2.upd u8 (fun e => absurd (hvb _ e) (Nat.lt_irrefl _)))
      refine vg_val 14 v8 w8 rfl (by kernel_rfl) (want_none rfl) (ex_app18 rfl (q46.e (j := 39) rfl) (q46.e (j := 48) rfl) ha8) rfl q46.z (by decide) (fun _ => hS8) (q46.k fun _ q47 => ?_);clear q46
      refine vg_takeW 15 true (.pointer (some ⟨q, 0, none⟩)) rfl (by kernel_rfl) (by kernel_rfl) (by kernel_rfl) (by kernel_rfl) (want_none rfl) (fun hc v => ex_nil rfl (q47.e (j := 35) rfl)) rfl q47.z (by decide) (fun _ => hS8) (q47.k fun _ q48 => ?_);clear q47
      refine vg_takeW 16 true (.pointer (some ⟨q, 0, none⟩)) rfl (by kernel_rfl) (by kernel_rfl) (by kernel_rfl) (by kernel_rfl) (want_none rfl) (fun hc v => ex_fa rfl (q48.e (j := 50) rfl) (faNt0 _ _)) rfl q48.z (by decide) (fun _ => hS8) (q48.k fun _ q49 => ?_);clear q48
      subst hv8
      obtain ⟨w9, hw9⟩ : ∃ y, y = w8.setCell ⟨q, 0, none⟩ (.slice a8 (l ++ [kx]).length c8) := ⟨_, rfl⟩
      refine vg_store 17 w9 rfl (by kernel_rfl) (by kernel_rfl) (want_none rfl) (ex_st rfl (q49.e (j := 51) rfl) (q49.e (j := 49) rfl) (by rw [hw9]; exact stNtS B8)) rfl ?_
      refine vg_done (by kernel_rfl) ?_
      have u9 : Upd (fun k => k = q) w8 w9 := by rw [hw9]; exact (Upd.refl (fun k => k = q) w8).setCell (p := ⟨q, 0, none⟩) (.inl rfl) _
      have B9 := B8.set1 0 (.slice a8 (l ++ [kx]).length c8)
      rw [← hw9] at B9
      have o9 := o8.upd1 u9 (fun g hg e => (n8 g hg).1 e)
      have m9 := m8.upd u9 (fun e => nmq e)
      have d9 : Below B w w9 := (d6.trans (b67.mono (by omega))).trans ((u8.below (by omega) (fun k hk => (o7.blk k hk).1)).trans (bel_ge u9 (by omega) hbq))
      have N9 : NB w9 B q (.slice a8 (l ++ [kx]).length c8) m (k + 1) (l ++ [kx]) := ⟨B9, o9, m9, by rw [List.length_append]; exact Nat.succ_le_succ hfew, hbq, hbm⟩
      go_upto_region 9 with fail
      go_upto_region 9 with fail
      refine wp_region_lit ?_
      refine q49.t (.int .i64 (0)) (ex_assign rfl rfl) fun _ q50 => ?_;clear q49
      refine wpList_nil ?_
      go_wp2
      refine bodyPost_ret (results_tmp rfl _ _ _) rfl ?_
      rw [getD_of (q50.a 6 rfl)]
      exact ⟨0, l ++ [kx], rfl, fun h => absurd rfl h, fun _ => ⟨fun r => by rw [cls_cons, if_pos hk, if_neg (by rw [← hab]; decide), if_neg (Int.not_le.2 (by omega)), hkx], ⟨_, _, N9⟩, by rw [List.length_append]; exact Nat.le_refl _⟩, d9⟩
end Go.Proofs.Yteamgkadhlbflaa
namespace Go.Proofs.Yteamgkadhlbflaa
open Go.RowKit Go.Maps
open Classical
theorem ldOwn76 {B g n c : Nat} {w : World} {l : List Kl} (h : OwnY yK B w (.slice (some ⟨g, 0, none⟩) n c) l) {j : Nat} {x : Kl} (hx : l[j]? = some x) : (Instr.loadAt 45 (.pointer (some ⟨g, j * 10, none⟩))).run Try.prog w = .ok x.val w := by
  have := ldEl (q := g) (o := 0) (fun j x hx i u hu => by rw [Nat.zero_add]; exact h.cell kK j x hx i u hu) hx
  rwa [Nat.zero_add] at this
set_option maxHeartbeats 2000000 in
theorem replied18 (x : Sn) (j : Nat) (l : List Kl) (B q m k : Nat) (v : Value) (w : World) (hN : NB w B q v m k l) (hk : x.kd = 6) (hkk : zRq.ok (x.en.c, x.en.n)) :
    Calls Try.prog 27 #[.pointer (some ⟨q, 0, none⟩), .int .i64 (j : Int), x.en.val, rV x.r] w fun e w' => ∃ (E : Int) (l' : List Kl), e = .returned (.int .i64 E) ∧ (E ≠ 0 → ∀ r, cls (x :: r) j l = ([], E)) ∧ (E = 0 → (∀ r, cls (x :: r) j l = cls r (j + 1) l') ∧ (∃ v' k', NB w' B q v' m k' l') ∧ l'.length ≤ l.length + 1) ∧ Below B w w' := by
  obtain ⟨av, cv, hv, _, _, _, _⟩ := hN.own.form
  subst hv
  have hvb : ∀ g, Value.ownBlock (.slice av l.length cv) = some g → g < w.heap.size := fun g hg => (hN.own.blk g hg).2
  have hqw := hN.box.lt
  have hmw := hN.map.lt
  have hB : B ≤ w.heap.size := Nat.le_trans hN.bq (Nat.le_of_lt hqw)
  have hk1 : ¬ x.kd = 1 := by omega
  go_enter Try.func27, Try.ntmps27
  go_upto_region 0 with fail
  refine wp_region_lit ?_
  refine vl_gen (fun T => Rp T 49 [(3, gw true (rV x.r)), (2, gw true (x.en.val)), (1, gw true (.int .i64 ((j : Nat) : Int))), (0, gw true (.pointer (some ⟨q, 0, none⟩)))]) (((((Rp.nil rfl).cons rfl).cons rfl).cons rfl).cons rfl) (fun Z0 q0 => ?_)
  obtain ⟨w1, hw1⟩ : ∃ y, y = w.alloc (.cells x.en.cs.toArray 76) := ⟨_, rfl⟩
  refine vw (.pointer (some ⟨w.heap.size, 0, none⟩)) w1 (want_none rfl) (ex_box18 rfl (q0.e (j := 2) rfl) (by rw [hw1]; exact bxE76 _ _)) rfl q0.z (by decide) (q0.k fun _ q1 => ?_);clear q0
  have Be : BB w1 w.heap.size 76 x.en.cs := by rw [hw1]; exact BB.new _ _ _
  have b1 : Below w.heap.size w w1 := by rw [hw1]; exact (Below.refl _ _).alloc (Nat.le_refl _) _
  have y1 : w1.heap.size = w.heap.size + 1 := by rw [hw1]; exact World.size_alloc _ _
  clear hw1
  obtain ⟨w2, hw2⟩ : ∃ y, y = w1.alloc (.cells (rsC x.r).toArray 43) := ⟨_, rfl⟩
  refine vw (.pointer (some ⟨w1.heap.size, 0, none⟩)) w2 (want_none rfl) (ex_box18 rfl (q1.e (j := 3) rfl) (by rw [hw2]; exact bxR76 _ _)) rfl q1.z (by decide) (q1.k fun _ q2 => ?_);clear q1
  have Br : BB w2 w1.heap.size 43 (rsC x.r) := by rw [hw2]; exact BB.new _ _ _
  have b2 : Below w1.heap.size w1 w2 := by rw [hw2]; exact (Below.refl _ _).alloc (Nat.le_refl _) _
  have y2 : w2.heap.size = w1.heap.size + 1 := by rw [hw2]; exact World.size_alloc _ _
  clear hw2
  have b02 : Below w.heap.size w w2 := b1.trans (b2.mono (by omega))
  replace Be := Be.later b2
  replace hN := hN.later b02
  have d2 := b02.mono hB
  clear b1 b2 b02
  refine q2.t (.int .i64 (0)) (ex_assign rfl rfl) fun _ q3 => ?_;clear q2
  have q4 := (((((Rp.nil q3.z).cons (q3.a 0 rfl)).cons (q3.a 1 rfl)).cons (q3.a 6 rfl)).cons (q3.a 7 rfl))
  clear q3
  refine wpList_nil ?_
  rcases plc70_in (c := x.en.c) (n := x.en.n) l 0 with e | ⟨i, y, e, hy, _, _⟩
  · have hp : ¬ 0 ≤ plc70 x.en.c x.en.n l 0 := by omega
    go_upto_region 1 with fail
    refine vh_start (fun v => Below w2.heap.size w2 v) (by kernel_rfl) ?_
    have hd1 : Below w2.heap.size w2 w2.drew := (Below.refl _ _).drew
    have hzd1 : w2.drew.heap.size = w2.heap.size := rfl
    generalize w2.drew = d1 at *
    have hlk : ∀ v, Below w2.heap.size w2 v → (Instr.lookup 85 (.map (some m)) (.agg #[.int .i64 x.en.c, .int .i64 x.en.n]) true).run Try.prog v = .ok (.tuple #[.int .i64 0, .bool false]) v := fun v hv => by
      have h9 := look76 (hN.later hv).map hkk
      rw [pF_no hp] at h9
      exact h9
    refine vh_take 0 true (.pointer (some ⟨q, 0, none⟩)) rfl (by kernel_rfl) (by kernel_rfl) (by kernel_rfl) (want_none rfl) (fun hc v hv => ex_move rfl (q4.e (j := 0) rfl)) rfl q4.z (by decide) hd1 (q4.k fun _ q5 => ?_);clear q4
    refine vh_take 1 true (.pointer (some ⟨q, 0, none⟩)) rfl (by kernel_rfl) (by kernel_rfl) (by kernel_rfl) (want_none rfl) (fun hc v hv => ex_nil rfl (q5.e (j := 12) rfl)) rfl q5.z (by decide) hd1 (q5.k fun _ q6 => ?_);clear q5
    refine vh_take 2 true (.pointer (some ⟨q, 1, none⟩)) rfl (by kernel_rfl) (by kernel_rfl) (by kernel_rfl) (want_none rfl) (fun hc v hv => ex_fa rfl (q6.e (j := 13) rfl) (faNt1 _ _)) rfl q6.z (by decide) hd1 (q6.k fun _ q7 => ?_);clear q6
    refine vh_take 3 true (.map (some m)) rfl (by kernel_rfl) (by kernel_rfl) (by kernel_rfl) (want_none rfl) (fun hc v hv => ex_ld rfl (q7.e (j := 14) rfl) (ldNtM (hN.later hv).box)) rfl q7.z (by decide) hd1 (q7.k fun _ q8 => ?_);clear q7
    refine vh_take 4 true (x.en.val) rfl (by kernel_rfl) (by kernel_rfl) (by kernel_rfl) (want_none rfl) (fun hc v hv => ex_ld rfl (q8.e (j := 6) rfl) (Be.later hv).ldE) rfl q8.z (by decide) hd1 (q8.k fun _ q9 => ?_);clear q8
    refine vh_call 5 rfl (by kernel_rfl) (want_none rfl) (ex_call rfl (by simp only [List.map_toArray, List.map_cons, List.map_nil, (q9.e (j := 16) rfl), evc] <;> rfl) rfl) (requestOf_any x.en.c x.en.n x.en.o.k x.en.o.s x.en.o.v d1) rfl q9.z (by decide) ?_
    rintro e w3 ⟨rfl, b3⟩
    have hd3 : Below w2.heap.size w2 w3 := hd1.trans (b3.mono (by omega))
    refine ⟨_, rfl, hd3, q9.k fun _ q10 => ?_⟩;clear q9
    refine vh_take 6 true (.tuple #[.int .i64 0, .bool false]) rfl (by kernel_rfl) (by kernel_rfl) (by kernel_rfl) (want_none rfl) (fun hc v hv => ex_look18 rfl (q10.e (j := 15) rfl) (q10.e (j := 17) rfl) (hlk v hv)) rfl q10.z (by decide) hd3 (q10.k fun _ q11 => ?_);clear q10
    refine vh_take 7 true (.tuple #[.int .i64 0, .bool false]) rfl (by kernel_rfl) (by kernel_rfl) (by kernel_rfl) (want_none rfl) (fun hc v hv => ex_move rfl (q11.e (j := 18) rfl)) rfl q11.z (by decide) hd3 (q11.k fun _ q12 => ?_);clear q11
    refine vh_take 8 true (.int .i64 0) rfl (by kernel_rfl) (by kernel_rfl) (by kernel_rfl) (want_none rfl) (fun hc v hv => ex_ext18 rfl (q12.e (j := 11) rfl) rfl) rfl q12.z (by decide) hd3 (q12.k fun _ q13 => ?_);clear q12
    refine vh_take 9 true (.bool false) rfl (by kernel_rfl) (by kernel_rfl) (by kernel_rfl) (want_none rfl) (fun hc v hv => ex_ext18 rfl (q13.e (j := 11) rfl) rfl) rfl q13.z (by decide) hd3 (q13.k fun _ q14 => ?_);clear q13
    refine vh_take 10 true (.int .i64 0) rfl (by kernel_rfl) (by kernel_rfl) (by kernel_rfl) (want_none rfl) (fun hc v hv => ex_assign rfl (q14.e (j := 19) rfl)) rfl q14.z (by decide) hd3 (q14.k fun _ q15 => ?_);clear q14
    refine vh_take 11 true (.bool false) rfl (by kernel_rfl) (by kernel_rfl) (by kernel_rfl) (want_none rfl) (fun hc v hv => ex_assign rfl (q15.e (j := 20) rfl)) rfl q15.z (by decide) hd3 (q15.k fun _ q16 => ?_);clear q15
    refine vh_done (by kernel_rfl) ?_
    have y3 := hd3.size
    replace Br := Br.later hd3
    replace hN := hN.later hd3
    have d3 := d2.trans (hd3.mono (by have := d2.size; omega))
    clear hd1 hzd1 hlk b3 hd3 Be d2
    have q17 := (((((((Rp.nil q16.z).cons (q16.a 0 rfl)).cons (q16.a 1 rfl)).cons (q16.a 6 rfl)).cons (q16.a 7 rfl)).cons (q16.a 9 rfl)).cons (q16.a 10 rfl))
    clear q16
    go_upto_region 2 with fail
    go_upto_region 2 with fail
    refine wp_region_lit ?_
    refine q17.t (.bool false) (ex_move rfl (q17.e (j := 10) rfl)) fun _ q18 => ?_;clear q17
    refine q18.t (.bool true) (ex_not rfl (q18.e (j := 21) rfl)) fun _ q19 => ?_;clear q18
    refine q19.t (.bool true) (ex_move rfl (q19.e (j := 22) rfl)) fun _ q20 => ?_;clear q19
    refine vl _ (undef) (want_g rfl rfl (q20.a 23 rfl)) (fun hc => absurd hc (by decide)) rfl q20.z (by decide) (q20.k fun _ q21 => ?_);clear q20
    refine vl _ (undef) (want_g rfl rfl (q21.a 23 rfl)) (fun hc => absurd hc (by decide)) rfl q21.z (by decide) (q21.k fun _ q22 => ?_);clear q21
    refine vl _ (undef) (want_g rfl rfl (q22.a 23 rfl)) (fun hc => absurd hc (by decide)) rfl q22.z (by decide) (q22.k fun _ q23 => ?_);clear q22
    refine vl _ (undef) (want_g rfl rfl (q23.a 23 rfl)) (fun hc => absurd hc (by decide)) rfl q23.z (by decide) (q23.k fun _ q24 => ?_);clear q23
    refine vl _ (undef) (want_g rfl rfl (q24.a 23 rfl)) (fun hc => absurd hc (by decide)) rfl q24.z (by decide) (q24.k fun _ q25 => ?_);clear q24
    refine vl _ (undef) (want_g rfl rfl (q25.a 23 rfl)) (fun hc => absurd hc (by decide)) rfl q25.z (by decide) (q25.k fun _ q26 => ?_);clear q25
    refine vl _ (undef) (want_g rfl rfl (q26.a 23 rfl)) (fun hc => absurd hc (by decide)) rfl q26.z (by decide) (q26.k fun _ q27 => ?_);clear q26
    refine vl _ (.bool false) (want_g rfl rfl (q27.a 23 rfl)) (fun hc => absurd hc (by decide)) rfl q27.z (by decide) (q27.k fun _ q28 => ?_);clear q27
    refine q28.t (.bool true) (ex_or (c := true) (b := true) (z := false) rfl (q28.a 23 rfl) (q28.a 31 rfl) rfl) fun _ q29 => ?_;clear q28
    refine wpList_nil ?_
    have hcl : ∀ r, cls (x :: r) j l = ([], 160) := fun r => by
      rw [cls_cons, if_neg hk1, if_pos hk, e]
      cases l[(-1 : Int).toNat]? with
      | none => rfl
      | some y => exact if_pos (.inl (by omega))
    go_upto_region 3 with fail
    refine wp_cond_true (q29.e (j := 32) rfl) ?_
    go_upto_region 3 with fail
    refine wp_region_lit ?_
    refine q29.t (.int .i64 (160)) (ex_assign rfl rfl) fun _ q30 => ?_;clear q29
    refine wpList_nil ?_
    go_wp2
    refine bodyPost_ret (results_tmp rfl _ _ _) rfl ?_
    rw [getD_of (q30.a 8 rfl)]
    exact ⟨160, [], rfl, fun _ r => hcl r, fun h => absurd h (by decide), d3⟩
  · have hil := (List.getElem?_eq_some_iff.1 hy).1
    have e1 : plc70 x.en.c x.en.n l 0 = ((i : Nat) : Int) := by rw [e, Nat.zero_add]
    have hp : 0 ≤ plc70 x.en.c x.en.n l 0 := by omega
    go_upto_region 1 with fail
    refine vh_start (fun v => Below w2.heap.size w2 v) (by kernel_rfl) ?_
    have hd1 : Below w2.heap.size w2 w2.drew := (Below.refl _ _).drew
    have hzd1 : w2.drew.heap.size = w2.heap.size := rfl
    generalize w2.drew = d1 at *
    have hlk : ∀ v, Below w2.heap.size w2 v → (Instr.lookup 85 (.map (some m)) (.agg #[.int .i64 x.en.c, .int .i64 x.en.n]) true).run Try.prog v = .ok (.tuple #[.int .i64 (plc70 x.en.c x.en.n l 0), .bool true]) v := fun v hv => by
      have h9 := look76 (hN.later hv).map hkk
      rw [pF_at hp] at h9
      exact h9
    refine vh_take 0 true (.pointer (some ⟨q, 0, none⟩)) rfl (by kernel_rfl) (by kernel_rfl) (by kernel_rfl) (want_none rfl) (fun hc v hv => ex_move rfl (q4.e (j := 0) rfl)) rfl q4.z (by decide) hd1 (q4.k fun _ q5 => ?_);clear q4
    refine vh_take 1 true (.pointer (some ⟨q, 0, none⟩)) rfl (by kernel_rfl) (by kernel_rfl) (by kernel_rfl) (want_none rfl) (fun hc v hv => ex_nil rfl (q5.e (j := 12) rfl)) rfl q5.z (by decide) hd1 (q5.k fun _ q6 => ?_);clear q5
    refine vh_take 2 true (.pointer (some ⟨q, 1, none⟩)) rfl (by kernel_rfl) (by kernel_rfl) (by kernel_rfl) (want_none rfl) (fun hc v hv => ex_fa rfl (q6.e (j := 13) rfl) (faNt1 _ _)) rfl q6.z (by decide) hd1 (q6.k fun _ q7 => ?_);clear q6
    refine vh_take 3 true (.map (some m)) rfl (by kernel_rfl) (by kernel_rfl) (by kernel_rfl) (want_none rfl) (fun hc v hv => ex_ld rfl (q7.e (j := 14) rfl) (ldNtM (hN.later hv).box)) rfl q7.z (by decide) hd1 (q7.k fun _ q8 => ?_);clear q7
    refine vh_take 4 true (x.en.val) rfl (by kernel_rfl) (by kernel_rfl) (by kernel_rfl) (want_none rfl) (fun hc v hv => ex_ld rfl (q8.e (j := 6) rfl) (Be.later hv).ldE) rfl q8.z (by decide) hd1 (q8.k fun _ q9 => ?_);clear q8
    refine vh_call 5 rfl (by kernel_rfl) (want_none rfl) (ex_call rfl (by simp only [List.map_toArray, List.map_cons, List.map_nil, (q9.e (j := 16) rfl), evc] <;> rfl) rfl) (requestOf_any x.en.c x.en.n x.en.o.k x.en.o.s x.en.o.v d1) rfl q9.z (by decide) ?_
    rintro e w3 ⟨rfl, b3⟩
    have hd3 : Below w2.heap.size w2 w3 := hd1.trans (b3.mono (by omega))
    refine ⟨_, rfl, hd3, q9.k fun _ q10 => ?_⟩;clear q9
    refine vh_take 6 true (.tuple #[.int .i64 (plc70 x.en.c x.en.n l 0), .bool true]) rfl (by kernel_rfl) (by kernel_rfl) (by kernel_rfl) (want_none rfl) (fun hc v hv => ex_look18 rfl (q10.e (j := 15) rfl) (q10.e (j := 17) rfl) (hlk v hv)) rfl q10.z (by decide) hd3 (q10.k fun _ q11 => ?_);clear q10
    refine vh_take 7 true (.tuple #[.int .i64 (plc70 x.en.c x.en.n l 0), .bool true]) rfl (by kernel_rfl) (by kernel_rfl) (by kernel_rfl) (want_none rfl) (fun hc v hv => ex_move rfl (q11.e (j := 18) rfl)) rfl q11.z (by decide) hd3 (q11.k fun _ q12 => ?_);clear q11
    refine vh_take 8 true (.int .i64 (plc70 x.en.c x.en.n l 0)) rfl (by kernel_rfl) (by kernel_rfl) (by kernel_rfl) (want_none rfl) (fun hc v hv => ex_ext18 rfl (q12.e (j := 11) rfl) rfl) rfl q12.z (by decide) hd3 (q12.k fun _ q13 => ?_);clear q12
    refine vh_take 9 true (.bool true) rfl (by kernel_rfl) (by kernel_rfl) (by kernel_rfl) (want_none rfl) (fun hc v hv => ex_ext18 rfl (q13.e (j := 11) rfl) rfl) rfl q13.z (by decide) hd3 (q13.k fun _ q14 => ?_);clear q13
    refine vh_take 10 true (.int .i64 (plc70 x.en.c x.en.n l 0)) rfl (by kernel_rfl) (by kernel_rfl) (by kernel_rfl) (want_none rfl) (fun hc v hv => ex_assign rfl (q14.e (j := 19) rfl)) rfl q14.z (by decide) hd3 (q14.k fun _ q15 => ?_);clear q14
    refine vh_take 11 true (.bool true) rfl (by kernel_rfl) (by kernel_rfl) (by kernel_rfl) (want_none rfl) (fun hc v hv => ex_assign rfl (q15.e (j := 20) rfl)) rfl q15.z (by decide) hd3 (q15.k fun _ q16 => ?_);clear q15
    refine vh_done (by kernel_rfl) ?_
    have y3 := hd3.size
    replace Br := Br.later hd3
    replace hN := hN.later hd3
    have d3 := d2.trans (hd3.mono (by have := d2.size; omega))
    clear hd1 hzd1 hlk b3 hd3 Be d2
    have q17 := (((((((Rp.nil q16.z).cons (q16.a 0 rfl)).cons (q16.a 1 rfl)).cons (q16.a 6 rfl)).cons (q16.a 7 rfl)).cons (q16.a 9 rfl)).cons (q16.a 10 rfl))
    clear q16
    go_upto_region 2 with fail
    go_upto_region 2 with fail
    refine wp_region_lit ?_
    refine q17.t (.bool true) (ex_move rfl (q17.e (j := 10) rfl)) fun _ q18 => ?_;clear q17
    refine q18.t (.bool false) (ex_not rfl (q18.e (j := 21) rfl)) fun _ q19 => ?_;clear q18
    refine q19.t (.bool false) (ex_move rfl (q19.e (j := 22) rfl)) fun _ q20 => ?_;clear q19
    rw [e1] at q20
    obtain ⟨g, hg, hg1, hg2⟩ := ownP69 hN.own (by omega)
    subst hg
    have og := hN.own
    refine vl _ (.pointer (some ⟨q, 0, none⟩)) (want_g rfl rfl (q20.a 23 rfl)) (fun hc => ex_move rfl (q20.e (j := 0) rfl)) rfl q20.z (by decide) (q20.k fun _ q21 => ?_);clear q20
    refine vl _ (.pointer (some ⟨q, 0, none⟩)) (want_g rfl rfl (q21.a 23 rfl)) (fun hc => ex_nil rfl (ev (q21.a 24 rfl) hc)) rfl q21.z (by decide) (q21.k fun _ q22 => ?_);clear q21
    refine vl _ (.pointer (some ⟨q, 0, none⟩)) (want_g rfl rfl (q22.a 23 rfl)) (fun hc => ex_fa rfl (ev (q22.a 25 rfl) hc) (faNt0 _ _)) rfl q22.z (by decide) (q22.k fun _ q23 => ?_);clear q22
    refine vl _ (.slice (some ⟨g, 0, none⟩) l.length cv) (want_g rfl rfl (q23.a 23 rfl)) (fun hc => ex_ld rfl (ev (q23.a 26 rfl) hc) (ldNtS hN.box)) rfl q23.z (by decide) (q23.k fun _ q24 => ?_);clear q23
    refine vl _ (.int .i64 ((i : Nat) : Int)) (want_g rfl rfl (q24.a 23 rfl)) (fun hc => ex_move rfl (q24.e (j := 9) rfl)) rfl q24.z (by decide) (q24.k fun _ q25 => ?_);clear q24
    refine vl _ (.pointer (some ⟨g, i * 10, none⟩)) (want_g rfl rfl (q25.a 23 rfl)) (fun hc => ex_ix rfl (ev (q25.a 27 rfl) hc) (ev (q25.a 28 rfl) hc) (ix0_68 g l.length cv i hil _)) rfl q25.z (by decide) (q25.k fun _ q26 => ?_);clear q25
    refine vl _ (y.val) (want_g rfl rfl (q26.a 23 rfl)) (fun hc => ex_ld rfl (ev (q26.a 29 rfl) hc) (ldOwn76 og hy)) rfl q26.z (by decide) (q26.k fun _ q27 => ?_);clear q26
    refine vcallP (show Region.wanted _ _ = (true && (false == false)) from want_g rfl rfl (q27.a 23 rfl)) (ex_call rfl (by simp only [List.map_toArray, List.map_cons, List.map_nil, (ev (q27.a 30 rfl) rfl), evc] <;> rfl) rfl) (isAnswered_any y w3) rfl q27.z (by decide) ?_
    rintro e w4 ⟨rfl, b4⟩
    refine ⟨_, rfl, q27.k fun _ q28 => ?_⟩;clear q27
    have y4 := b4.size
    replace Br := Br.later b4
    replace hN := hN.later b4
    replace og := og.grow b4
    replace d3 := d3.trans (b4.mono (by have := d3.size; omega))
    refine q28.t (.bool (ansK y)) (ex_or (c := true) (b := false) (z := ansK y) rfl (q28.a 23 rfl) (q28.a 31 rfl) rfl) fun _ q29 => ?_;clear q28
    refine wpList_nil ?_
    have hcl : ∀ r, cls (x :: r) j l = if (i : Int) < 0 ∨ 0 ≤ y.e then ([], 160) else cls r (j + 1) (l.set i { y with e := (j : Int), r := x.r }) := fun r => by
      rw [cls_cons, if_neg hk1, if_pos hk, e1, show (((i : Nat) : Int)).toNat = i from rfl, hy]
    have HCL := hide hcl
    clear hcl
    by_cases hye : 0 ≤ y.e
    · have ha : ansK y = true := decide_eq_true hye
      rw [ha] at q29
      go_upto_region 3 with fail
      refine wp_cond_true (q29.e (j := 32) rfl) ?_
      go_upto_region 3 with fail
      refine wp_region_lit ?_
      refine q29.t (.int .i64 (160)) (ex_assign rfl rfl) fun _ q30 => ?_;clear q29
      refine wpList_nil ?_
      go_wp2
      refine bodyPost_ret (results_tmp rfl _ _ _) rfl ?_
      rw [getD_of (q30.a 8 rfl)]
      exact ⟨160, [], rfl, fun _ r => (HCL.out r).trans (if_pos (.inr hye)), fun h => absurd h (by decide), d3⟩
    · have ha : ansK y = false := decide_eq_false hye
      rw [ha] at q29
      go_upto_region 4 with fail
      refine wp_cond_false (q29.e (j := 32) rfl) ?_
      go_upto_region 4 with fail
      have q30 := (((((Rp.nil q29.z).cons (q29.a 0 rfl)).cons (q29.a 1 rfl)).cons (q29.a 7 rfl)).cons (q29.a 9 rfl))
      clear q29
      have hmq := hN.mq
      have hgq := hN.nq g rfl
      have hgm := hN.nm g rfl
      have hqw4 := hN.box.lt
      have hmw4 := hN.map.lt
      refine vh_start (fun v => BB v q 87 [.slice (some ⟨g, 0, none⟩) l.length cv, .map (some m)] ∧ BB v w1.heap.size 43 (rsC x.r)) (by kernel_rfl) ?_
      have hd5 : Below w4.heap.size w4 w4.drew := (Below.refl _ _).drew
      have hzd5 : w4.drew.heap.size = w4.heap.size := rfl
      generalize w4.drew = d5 at *
      replace Br := Br.later hd5
      replace hN := hN.later hd5
      replace og := og.grow hd5
      replace d3 := d3.trans (hd5.mono (by have := d3.size; omega))
      have hS5 := And.intro hN.box Br
      refine vh_take 0 true (.pointer (some ⟨q, 0, none⟩)) rfl (by kernel_rfl) (by kernel_rfl) (by kernel_rfl) (want_none rfl) (fun hc v hv => ex_move rfl (q30.e (j := 0) rfl)) rfl q30.z (by decide) hS5 (q30.k fun _ q31 => ?_);clear q30
      refine vh_take 1 true (.pointer (some ⟨q, 0, none⟩)) rfl (by kernel_rfl) (by kernel_rfl) (by kernel_rfl) (want_none rfl) (fun hc v hv => ex_nil rfl (q31.e (j := 33) rfl)) rfl q31.z (by decide) hS5 (q31.k fun _ q32 => ?_);clear q31
      refine vh_take 2 true (.pointer (some ⟨q, 0, none⟩)) rfl (by kernel_rfl) (by kernel_rfl) (by kernel_rfl) (want_none rfl) (fun hc v hv => ex_fa rfl (q32.e (j := 34) rfl) (faNt0 _ _)) rfl q32.z (by decide) hS5 (q32.k fun _ q33 => ?_);clear q32
      refine vh_take 3 true (.slice (some ⟨g, 0, none⟩) l.length cv) rfl (by kernel_rfl) (by kernel_rfl) (by kernel_rfl) (want_none rfl) (fun hc v hv => ex_ld rfl (q33.e (j := 35) rfl) (ldNtS hv.1)) rfl q33.z (by decide) hS5 (q33.k fun _ q34 => ?_);clear q33
      refine vh_take 4 true (.int .i64 ((i : Nat) : Int)) rfl (by kernel_rfl) (by kernel_rfl) (by kernel_rfl) (want_none rfl) (fun hc v hv => ex_move rfl (q34.e (j := 9) rfl)) rfl q34.z (by decide) hS5 (q34.k fun _ q35 => ?_);clear q34
      refine vh_take 5 true (.pointer (some ⟨q, 0, none⟩)) rfl (by kernel_rfl) (by kernel_rfl) (by kernel_rfl) (want_none rfl) (fun hc v hv => ex_move rfl (q35.e (j := 0) rfl)) rfl q35.z (by decide) hS5 (q35.k fun _ q36 => ?_);clear q35
      refine vh_take 6 true (.pointer (some ⟨q, 0, none⟩)) rfl (by kernel_rfl) (by kernel_rfl) (by kernel_rfl) (want_none rfl) (fun hc v hv => ex_nil rfl (q36.e (j := 38) rfl)) rfl q36.z (by decide) hS5 (q36.k fun _ q37 => ?_);clear q36
      refine vh_take 7 true (.pointer (some ⟨q, 0, none⟩)) rfl (by kernel_rfl) (by kernel_rfl) (by kernel_rfl) (want_none rfl) (fun hc v hv => ex_fa rfl (q37.e (j := 39) rfl) (faNt0 _ _)) rfl q37.z (by decide) hS5 (q37.k fun _ q38 => ?_);clear q37
      refine vh_take 8 true (.slice (some ⟨g, 0, none⟩) l.length cv) rfl (by kernel_rfl) (by kernel_rfl) (by kernel_rfl) (want_none rfl) (fun hc v hv => ex_ld rfl (q38.e (j := 40) rfl) (ldNtS hv.1)) rfl q38.z (by decide) hS5 (q38.k fun _ q39 => ?_);clear q38
      refine vh_take 9 true (.int .i64 ((i : Nat) : Int)) rfl (by kernel_rfl) (by kernel_rfl) (by kernel_rfl) (want_none rfl) (fun hc v hv => ex_move rfl (q39.e (j := 9) rfl)) rfl q39.z (by decide) hS5 (q39.k fun _ q40 => ?_);clear q39
      refine vh_take 10 true (.int .i64 ((j : Nat) : Int)) rfl (by kernel_rfl) (by kernel_rfl) (by kernel_rfl) (want_none rfl) (fun hc v hv => ex_move rfl (q40.e (j := 1) rfl)) rfl q40.z (by decide) hS5 (q40.k fun _ q41 => ?_);clear q40
      refine vh_take 11 true (rV x.r) rfl (by kernel_rfl) (by kernel_rfl) (by kernel_rfl) (want_none rfl) (fun hc v hv => ex_ld rfl (q41.e (j := 7) rfl) (BB.ldr62 hv.2)) rfl q41.z (by decide) hS5 (q41.k fun _ q42 => ?_);clear q41
      refine vh_take 12 true (.pointer (some ⟨g, i * 10, none⟩)) rfl (by kernel_rfl) (by kernel_rfl) (by kernel_rfl) (want_none rfl) (fun hc v hv => ex_ix rfl (q42.e (j := 36) rfl) (q42.e (j := 37) rfl) (ix0_68 g l.length cv i hil _)) rfl q42.z (by decide) hS5 (q42.k fun _ q43 => ?_);clear q42
      refine vh_take 13 true (.pointer (some ⟨g, i * 10 + 6, none⟩)) rfl (by kernel_rfl) (by kernel_rfl) (by kernel_rfl) (want_none rfl) (fun hc v hv => ex_fa rfl (q43.e (j := 45) rfl) (fa4_68 _ _ _)) rfl q43.z (by decide) hS5 (q43.k fun _ q44 => ?_);clear q43
      obtain ⟨w6, hst6, o6, u6⟩ := stKe68 og hy (j : Int)
      obtain ⟨w7, hst7, o7, u7⟩ := stKr68 o6 (by rw [List.getElem?_set_self hil]) x.r
      rw [List.set_set] at o7
      have y6 := u6.size
      have y7 := u7.size
      have hgr : ¬ w1.heap.size = g := fun e => by have := hvb g rfl; omega
      have hS6 := And.intro (hN.box.upd u6 (fun e => hgq e.symm)) (Br.upd u6 hgr)
      have hS7 := And.intro (hS6.1.upd u7 (fun e => hgq e.symm)) (hS6.2.upd u7 hgr)
      refine vh_store18 14 w6 rfl (by kernel_rfl) (want_none rfl) (ex_st rfl (q44.e (j := 46) rfl) (q44.e (j := 43) rfl) hst6) rfl hS6 ?_
      refine vh_take 15 true (.pointer (some ⟨g, i * 10, none⟩)) rfl (by kernel_rfl) (by kernel_rfl) (by kernel_rfl) (want_none rfl) (fun hc v hv => ex_ix rfl (q44.e (j := 41) rfl) (q44.e (j := 42) rfl) (ix0_68 g l.length cv i hil _)) rfl q44.z (by decide) hS6 (q44.k fun _ q45 => ?_);clear q44
      refine vh_take 16 true (.pointer (some ⟨g, i * 10 + 7, none⟩)) rfl (by kernel_rfl) (by kernel_rfl) (by kernel_rfl) (want_none rfl) (fun hc v hv => ex_fa rfl (q45.e (j := 47) rfl) (fa5_68 _ _ _)) rfl q45.z (by decide) hS6 (q45.k fun _ q46 => ?_);clear q45
      refine vh_store18 17 w7 rfl (by kernel_rfl) (want_none rfl) (ex_st rfl (q46.e (j := 48) rfl) (q46.e (j := 44) rfl) hst7) rfl hS7 ?_
      refine vh_done (by kernel_rfl) ?_
      have m7 := (hN.map.upd u6 (fun e => hgm e.symm)).upd u7 (fun e => hgm e.symm)
      have d7 : Below B w w7 := (d3.trans (bel_ge u6 (by omega) hg1)).trans (bel_ge u7 (by omega) hg1)
      have N7 : NB w7 B q (.slice (some ⟨g, 0, none⟩) l.length cv) m k (l.set i { y with e := (j : Int), r := x.r }) := ⟨hS7.1, o7, by rw [pF_set (x := y) (y := { y with e := (j : Int), r := x.r }) rfl rfl hy]; exact m7, by rw [List.length_set]; exact hN.few, hN.bq, hN.bm⟩
      go_upto_region 5 with fail
      go_upto_region 5 with fail
      refine wp_region_lit ?_
      refine q46.t (.int .i64 (0)) (ex_assign rfl rfl) fun _ q47 => ?_;clear q46
      refine wpList_nil ?_
      go_wp2
      refine bodyPost_ret (results_tmp rfl _ _ _) rfl ?_
      rw [getD_of (q47.a 8 rfl)]
      exact ⟨0, rfl, fun h => absurd rfl h, ⟨l.set i { y with e := (j : Int), r := x.r }, fun _ => ⟨fun r => (HCL.out r).trans (if_neg (by omega)), ⟨_, _, N7⟩, by rw [List.length_set]; omega⟩⟩, d7⟩
theorem mkM78 (w : World) : (Instr.makeMap 85 none).run Try.prog w = .ok (.map (some w.heap.size)) (w.alloc (.map #[] 0)) := by
  simp [Instr.makeMap, run_underlying Try.underlying85, Result.andThen]
def ntC (v : Value) (m : Option Nat) : List Value := [v, .map m]
theorem alNt (w : World) : (Instr.alloc 87 true (.tuple #[])).run Try.prog w = .ok (.pointer (some ⟨w.heap.size, 0, none⟩)) (w.alloc (.cells (ntC (.slice none 0 0) none).toArray 87)) := by kernel_rfl
theorem bdNt (m : Nat) (w : World) : (Instr.build 87 #[(1, .map (some m))]).run Try.prog w = .ok (.agg (ntC (.slice none 0 0) (some m)).toArray) w := by
  unfold ntC
  go_simp
theorem info2nt : (Try.prog.info? 87).map (·.size) = some 2 := by kernel_rfl
theorem oneNt (m : Nat) : (ntC (.slice none 0 0) (some m)).toArray.all (·.oneCell') = true := by
  rw [Array.all_eq_true_iff_forall_mem]
  intro u hu
  simp only [ntC, List.mem_toArray, List.mem_cons, List.not_mem_nil, or_false] at hu
  rcases hu with rfl | rfl <;> rfl
theorem cls_end (L : List Sn) (l : List Kl) : cls (L.drop L.length) L.length l = (l, 0) := by
  rw [List.drop_length]
  rfl
theorem neS78 (x y : Operand) (a b : Int) (w : World) : (do eqGuard .neq 25 x y (.int .i64 a) (.int .i64 b); binOp .neq 25 (.int .i64 a) (.int .i64 b) : Sem Value).run Try.prog w = .ok (.bool (!decide (a = b))) w := by
  by_cases h : a = b
  · rw [decide_eq_true h]; subst h; go_simp
  · rw [decide_eq_false h]; go_simp
set_option maxHeartbeats 2000000 in
theorem calls18 (L : List Sn) (a : Option Addr) (c : Nat) (w : World) (h : SlY ySn w a L.length c L) (hf : ∀ x ∈ L, x.en.fits) (hn : L.length * 200 ≤ 140737488351232) :
    Calls Try.prog 8 #[.slice a L.length c] w fun e w' => ∃ v, e = .returned (.tuple #[v, .int .i64 (cls L 0 []).2]) ∧ OwnY yK w.heap.size w' v (cls L 0 []).1 ∧ Below w.heap.size w w' := by
  go_enter Try.func8, Try.ntmps8
  go_upto_region 0 with fail
  refine wp_region_lit ?_
  refine vl_gen (fun T => Rp T 39 [(0, gw true (.slice a L.length c))]) ((Rp.nil rfl).cons rfl) (fun Z0 q0 => ?_)
  refine q0.t (.slice none 0 0) (ex_assign rfl rfl) fun _ q1 => ?_;clear q0
  refine q1.t (.int .i64 (0)) (ex_assign rfl rfl) fun _ q2 => ?_;clear q1
  refine wpList_nil ?_
  go_upto_region 1 with fail
  refine wp_region_lit ?_
  obtain ⟨w1, hw1⟩ : ∃ y, y = w.alloc (.map #[] 0) := ⟨_, rfl⟩
  refine vw (.map (some w.heap.size)) w1 (want_none rfl) (ex_mm18 rfl (by rw [hw1]; exact mkM78 _)) rfl q2.z (by decide) (q2.k fun _ q3 => ?_);clear q2
  have m1 : MapG zRq w1 w.heap.size 0 (pF []) := by rw [hw1]; exact (MapG.made zRq w).ext (fun z _ => by rfl)
  have b1 : Below w.heap.size w w1 := by rw [hw1]; exact (Below.refl _ _).alloc (Nat.le_refl _) _
  have y1 : w1.heap.size = w.heap.size + 1 := by rw [hw1]; exact World.size_alloc _ _
  clear hw1
  refine q3.t (.agg (ntC (.slice none 0 0) (some w.heap.size)).toArray) (ex_buildP18 (P := #[(1, .map (some w.heap.size))]) rfl (by simp only [List.map_toArray, List.map_cons, List.map_nil, (q3.e (j := 8) rfl), evc] <;> rfl) (bdNt _ _)) fun _ q4 => ?_;clear q3
  obtain ⟨w2, hw2⟩ : ∃ y, y = w1.alloc (.cells (ntC (.slice none 0 0) none).toArray 87) := ⟨_, rfl⟩
  refine vw (.pointer (some ⟨w1.heap.size, 0, none⟩)) w2 (want_none rfl) (ex_al rfl (by rw [hw2]; exact alNt _)) rfl q4.z (by decide) (q4.k fun _ q5 => ?_);clear q4
  have Bn0 : BB w2 w1.heap.size 87 (ntC (.slice none 0 0) none) := by rw [hw2]; exact BB.new _ _ _
  have b2 : Below w1.heap.size w1 w2 := by rw [hw2]; exact (Below.refl _ _).alloc (Nat.le_refl _) _
  have y2 : w2.heap.size = w1.heap.size + 1 := by rw [hw2]; exact World.size_alloc _ _
  clear hw2
  obtain ⟨w3, hw3⟩ : ∃ y, y = w2.setCells w1.heap.size 0 (ntC (.slice none 0 0) (some w.heap.size)) := ⟨_, rfl⟩
  refine vs w3 (want_none rfl) (ex_st rfl (q5.e (j := 4) rfl) (q5.e (j := 9) rfl) (by rw [hw3]; exact Bn0.st 87 _ rfl info2nt (oneNt _))) rfl ?_
  have Bn : BB w3 w1.heap.size 87 [.slice none 0 0, .map (some w.heap.size)] := by rw [hw3]; exact Bn0.whole (ntC (.slice none 0 0) (some w.heap.size)) rfl
  have u3 : Upd (fun k => k = w1.heap.size) w2 w3 := by rw [hw3]; exact upd18 _ _ _ _
  clear hw3 Bn0
  have y3 := u3.size
  have d3 : Below w.heap.size w w3 := (b1.trans (b2.mono (by omega))).trans (bel_ge u3 (by omega) (by omega))
  have N3 : NB w3 w.heap.size w1.heap.size (.slice none 0 0) w.heap.size 0 [] := ⟨Bn, OwnY.nil _ _ _, (m1.later b2).upd u3 (by omega), Nat.le_refl _, by omega, Nat.le_refl _⟩
  clear Bn m1 b1 b2 u3
  refine wpList_nil ?_
  go_upto_region 2 with fail
  refine wp_region_lit ?_
  refine q5.t (.slice a L.length c) (ex_move rfl (q5.e (j := 0) rfl)) fun _ q6 => ?_;clear q5
  refine q6.t (.int .i64 ((L.length : Nat) : Int)) (ex_lenSn rfl rfl (q6.e (j := 10) rfl)) fun _ q7 => ?_;clear q6
  refine q7.t (.int .i64 ((0 : Nat) : Int)) (ex_move rfl rfl) fun _ q8 => ?_;clear q7
  have q9 := ((((((Rp.nil q8.z).cons (q8.a 0 rfl)).cons (q8.a 4 rfl)).cons (q8.a 10 rfl)).cons (q8.a 11 rfl)).cons (q8.a 12 rfl))
  clear q8
  refine wpList_nil ?_
  go_upto_region 3 with fail
  refine v_loop 12 L.length (fun j T wr => ∃ (v : Value) (k : Nat) (l : List Kl), Rp T 39 [(12, gw true (.int .i64 ((j : Nat) : Int))), (11, gw true (.int .i64 ((L.length : Nat) : Int))), (10, gw true (.slice a L.length c)), (4, gw true (.pointer (some ⟨w1.heap.size, 0, none⟩))), (0, gw true (.slice a L.length c))] ∧ Hid (NB wr w.heap.size w1.heap.size v w.heap.size k l ∧ cls (L.drop j) j l = cls L 0 [] ∧ l.length ≤ j ∧ Below w.heap.size w wr)) (fun j T w h => by obtain ⟨_, _, _, h, _⟩ := h; exact h.a 12 rfl) ⟨_, _, [], q9, N3, by rw [List.drop_zero], Nat.le_refl _, d3⟩ ?_
  clear q9 N3 d3
  intro j T wr hj hh
  obtain ⟨v, k, l, q100, HJ⟩ := hh
  obtain ⟨hN, hcl, hl, d⟩ := HJ.out
  clear HJ
  have zr := d.size
  by_cases hit : j < L.length
  · obtain ⟨x, hx⟩ : ∃ x, L[j]? = some x := ⟨_, List.getElem?_eq_getElem (by omega)⟩
    have fx := hf x (List.mem_of_getElem? hx)
    obtain ⟨qa, oa, hqa, hqal, hl0⟩ := h.place (by rintro rfl; simp at hx)
    have hl1 : LieY ySn wr qa oa L := hl0.upd (S := fun _ => False) (Upd.of_below d) hqal id
    rw [cls_at hx] at hcl
    have hll : l.length ≤ 703687441776 := by omega
    go_upto_region 3 with fail
    refine wp_region_lit ?_
    refine q100.t (.bool true) (ex_bin rfl (q100.e (j := 12) rfl) (q100.e (j := 11) rfl) (ltT _ _ hit _)) fun _ q101 => ?_;clear q100
    refine wpList_nil ?_
    go_upto_region 4 with fail
    refine wp_cond_true (q101.e (j := 13) rfl) ?_
    go_upto_region 4 with fail
    refine wp_region_lit ?_
    refine q101.t (.int .i64 ((j : Nat) : Int)) (ex_move rfl (q101.e (j := 12) rfl)) fun _ q102 => ?_;clear q101
    refine q102.t (.pointer (some ⟨qa, oa + j * 19, none⟩)) (ex_ix rfl (q102.e (j := 10) rfl) (q102.e (j := 12) rfl) (by rw [hqa]; exact ixSn qa oa L.length c j hit _)) fun _ q103 => ?_;clear q102
    refine q103.t (x.val) (ex_ld rfl (q103.e (j := 15) rfl) (ldSnV hl1 hx)) fun _ q104 => ?_;clear q103
    obtain ⟨w4, hw4⟩ : ∃ y, y = wr.alloc (.cells zSn.cs.toArray 82) := ⟨_, rfl⟩
    refine vw (.pointer (some ⟨wr.heap.size, 0, none⟩)) w4 (want_none rfl) (ex_al rfl (by rw [hw4]; exact alSn _)) rfl q104.z (by decide) (q104.k fun _ q105 => ?_);clear q104
    have Bx0 : BB w4 wr.heap.size 82 zSn.cs := by rw [hw4]; exact BB.new _ _ _
    have b4 : Below wr.heap.size wr w4 := by rw [hw4]; exact (Below.refl _ _).alloc (Nat.le_refl _) _
    have y4 : w4.heap.size = wr.heap.size + 1 := by rw [hw4]; exact World.size_alloc _ _
    clear hw4
    obtain ⟨w5, hw5⟩ : ∃ y, y = w4.setCells wr.heap.size 0 x.cs := ⟨_, rfl⟩
    refine q105.t (.int .i64 ((j : Nat) : Int)) (ex_assign rfl (q105.e (j := 14) rfl)) fun _ q106 => ?_;clear q105
    refine vs w5 (want_none rfl) (ex_st rfl (q106.e (j := 6) rfl) (q106.e (j := 16) rfl) (by rw [hw5]; exact Bx0.st 82 x.cs rfl info19 (oneSn x))) rfl ?_
    have Bx : BB w5 wr.heap.size 82 x.cs := by rw [hw5]; exact Bx0.whole _ rfl
    have u5 : Upd (fun k => k = wr.heap.size) w4 w5 := by rw [hw5]; exact upd18 _ _ _ _
    clear hw5 Bx0
    have y5 := u5.size
    have b5 : Below wr.heap.size wr w5 := b4.trans (bel_ge u5 (by omega) (by omega))
    replace hN := hN.later b5
    replace d := d.trans (b5.mono zr)
    clear b4 b5 u5
    have q107 := ((((((((Rp.nil q106.z).cons (q106.a 0 rfl)).cons (q106.a 4 rfl)).cons (q106.a 5 rfl)).cons (q106.a 6 rfl)).cons (q106.a 10 rfl)).cons (q106.a 11 rfl)).cons (q106.a 12 rfl))
    clear q106
    refine wpList_nil ?_
    go_upto_region 5 with fail
    refine wp_region_lit ?_
    refine q107.t (.int .i64 (0)) (ex_assign rfl rfl) fun _ q108 => ?_;clear q107
    refine wpList_nil ?_
    go_upto_region 6 with fail
    refine wp_region_lit ?_
    refine q108.t (.pointer (some ⟨wr.heap.size, 0, none⟩)) (ex_fa rfl (q108.e (j := 6) rfl) (faS75 _ 0 0 (by decide) _)) fun _ q109 => ?_;clear q108
    refine q109.t (.int .i64 (x.kd)) (ex_ld rfl (q109.e (j := 17) rfl) Bx.ldSK) fun _ q110 => ?_;clear q109
    refine wpList_nil ?_
    go_upto_region 7 with fail
    refine wp_region_lit ?_
    refine q110.t (.bool (decide (x.kd = 1))) (ex_bin (Y := .int .i64 (1)) rfl (q110.e (j := 18) rfl) rfl (eqS71 _ _ _ _ _)) fun _ q111 => ?_;clear q110
    refine q111.t (.bool (decide (x.kd = 1))) (ex_assign rfl (q111.e (j := 20) rfl)) fun _ q112 => ?_;clear q111
    refine wpList_nil ?_
    by_cases hk : x.kd = 1
    · rw [decide_eq_true hk] at q112
      go_upto_region 8 with fail
      refine wp_cond_true (q112.e (j := 19) rfl) ?_
      go_upto_region 8 with fail
      refine wp_region_lit ?_
      refine q112.t (.int .i64 ((j : Nat) : Int)) (ex_move rfl (q112.e (j := 5) rfl)) fun _ q113 => ?_;clear q112
      refine q113.t (.pointer (some ⟨wr.heap.size, 7, none⟩)) (ex_fa rfl (q113.e (j := 6) rfl) (faS75 _ 6 7 (by decide) _)) fun _ q114 => ?_;clear q113
      refine q114.t (x.en.val) (ex_ld rfl (q114.e (j := 22) rfl) Bx.ldSE) fun _ q115 => ?_;clear q114
      refine vcallP (want_none rfl) (ex_call rfl (by simp only [List.map_toArray, List.map_cons, List.map_nil, (q115.e (j := 4) rfl), (q115.e (j := 21) rfl), (q115.e (j := 23) rfl), evc] <;> rfl) rfl) (asked18 x j l w.heap.size w1.heap.size w.heap.size k v w5 hN hk fx.ow ⟨fx.cw, fx.nw⟩ hll) rfl q115.z (by decide) ?_
      rintro e w6 ⟨E, l2, rfl, hE, h0, b⟩
      refine ⟨_, rfl, q115.k fun _ q116 => ?_⟩;clear q115
      refine q116.t (.int .i64 E) (ex_assign rfl (q116.e (j := 24) rfl)) fun _ q117 => ?_;clear q116
      refine wpList_nil ?_
      go_upto_region 11 with fail
      refine wp_region_lit ?_
      refine q117.t (.int .i64 E) (ex_move rfl (q117.e (j := 7) rfl)) fun _ q118 => ?_;clear q117
      refine q118.t (.bool (!decide (E = 0))) (ex_bin (Y := .int .i64 (0)) rfl (q118.e (j := 33) rfl) rfl (neS78 _ _ _ _ _)) fun _ q119 => ?_;clear q118
      refine wpList_nil ?_
      by_cases he : E = 0
      · rw [decide_eq_true he] at q119
        obtain ⟨h1, ⟨v2, k2, N2⟩, h3⟩ := h0 he
        go_upto_region 13 with fail
        refine wp_cond_false (q119.e (j := 34) rfl) ?_
        go_upto_region 13 with fail
        refine wp_region_lit ?_
        refine q119.t (.int .i64 ((j + 1 : Nat) : Int)) (ex_bin (Y := .int .i64 (1)) rfl (q119.e (j := 12) rfl) rfl (add1C _ _ j (by omega) _)) fun _ q120 => ?_;clear q119
        refine q120.t (.int .i64 ((j + 1 : Nat) : Int)) (ex_move rfl (q120.e (j := 36) rfl)) fun _ q121 => ?_;clear q120
        have q122 := ((((((Rp.nil q121.z).cons (q121.a 0 rfl)).cons (q121.a 4 rfl)).cons (q121.a 10 rfl)).cons (q121.a 11 rfl)).cons (q121.a 12 rfl))
        clear q121
        refine wpList_nil ?_
        exact ⟨_, rfl, hit, v2, k2, l2, q122, N2, (h1 _).symm.trans hcl, by omega, d.trans b⟩
      · rw [decide_eq_false he] at q119
        go_upto_region 12 with fail
        refine wp_cond_true (q119.e (j := 34) rfl) ?_
        go_upto_region 12 with fail
        refine wp_region_lit ?_
        refine q119.t (.int .i64 E) (ex_move rfl (q119.e (j := 7) rfl)) fun _ q120 => ?_;clear q119
        refine q120.t (.slice none 0 0) (ex_assign rfl rfl) fun _ q121 => ?_;clear q120
        refine q121.t (.int .i64 E) (ex_assign rfl (q121.e (j := 35) rfl)) fun _ q122 => ?_;clear q121
        rw [hE he] at hcl
        refine wpList_nil ?_
        go_wp2
        exact bodyPost_ret (results2_18 rfl (q122.a 2 rfl) (q122.a 3 rfl)) rfl ⟨.slice none 0 0, by rw [← hcl] <;> rfl, by rw [← hcl]; exact OwnY.nil _ _ _, d.trans b⟩
    · rw [decide_eq_false hk] at q112
      go_upto_region 9 with fail
      refine wp_cond_false (q112.e (j := 19) rfl) ?_
      go_upto_region 9 with fail
      refine wp_region_lit ?_
      refine q112.t (.bool (decide (x.kd = 6))) (ex_bin (Y := .int .i64 (6)) rfl (q112.e (j := 18) rfl) rfl (eqS71 _ _ _ _ _)) fun _ q113 => ?_;clear q112
      refine q113.t (.bool (decide (x.kd = 6))) (ex_assign rfl (q113.e (j := 26) rfl)) fun _ q114 => ?_;clear q113
      refine wpList_nil ?_
      by_cases hk6 : x.kd = 6
      · rw [decide_eq_true hk6] at q114
        go_upto_region 10 with fail
        refine wp_cond_true (q114.e (j := 25) rfl) ?_
        go_upto_region 10 with fail
        refine wp_region_lit ?_
        refine q114.t (.int .i64 ((j : Nat) : Int)) (ex_move rfl (q114.e (j := 5) rfl)) fun _ q115 => ?_;clear q114
        refine q115.t (.pointer (some ⟨wr.heap.size, 7, none⟩)) (ex_fa rfl (q115.e (j := 6) rfl) (faS75 _ 6 7 (by decide) _)) fun _ q116 => ?_;clear q115
        refine q116.t (x.en.val) (ex_ld rfl (q116.e (j := 28) rfl) Bx.ldSE) fun _ q117 => ?_;clear q116
        refine q117.t (.pointer (some ⟨wr.heap.size, 12, none⟩)) (ex_fa rfl (q117.e (j := 6) rfl) (faS75 _ 7 12 (by decide) _)) fun _ q118 => ?_;clear q117
        refine q118.t (rV x.r) (ex_ld rfl (q118.e (j := 30) rfl) Bx.ldSR) fun _ q119 => ?_;clear q118
        refine vcallP (want_none rfl) (ex_call rfl (by simp only [List.map_toArray, List.map_cons, List.map_nil, (q119.e (j := 4) rfl), (q119.e (j := 27) rfl), (q119.e (j := 29) rfl), (q119.e (j := 31) rfl), evc] <;> rfl) rfl) (replied18 x j l w.heap.size w1.heap.size w.heap.size k v w5 hN hk6 ⟨fx.cw, fx.nw⟩) rfl q119.z (by decide) ?_
        rintro e w6 ⟨E, l2, rfl, hE, h0, b⟩
        refine ⟨_, rfl, q119.k fun _ q120 => ?_⟩;clear q119
        refine q120.t (.int .i64 E) (ex_assign rfl (q120.e (j := 32) rfl)) fun _ q121 => ?_;clear q120
        refine wpList_nil ?_
        go_upto_region 11 with fail
        go_upto_region 11 with fail
        refine wp_region_lit ?_
        refine q121.t (.int .i64 E) (ex_move rfl (q121.e (j := 7) rfl)) fun _ q122 => ?_;clear q121
        refine q122.t (.bool (!decide (E = 0))) (ex_bin (Y := .int .i64 (0)) rfl (q122.e (j := 33) rfl) rfl (neS78 _ _ _ _ _)) fun _ q123 => ?_;clear q122
        refine wpList_nil ?_
        by_cases he : E = 0
        · rw [decide_eq_true he] at q123
          obtain ⟨h1, ⟨v2, k2, N2⟩, h3⟩ := h0 he
          go_upto_region 13 with fail
          refine wp_cond_false (q123.e (j := 34) rfl) ?_
          go_upto_region 13 with fail
          refine wp_region_lit ?_
          refine q123.t (.int .i64 ((j + 1 : Nat) : Int)) (ex_bin (Y := .int .i64 (1)) rfl (q123.e (j := 12) rfl) rfl (add1C _ _ j (by omega) _)) fun _ q124 => ?_;clear q123
          refine q124.t (.int .i64 ((j + 1 : Nat) : Int)) (ex_move rfl (q124.e (j := 36) rfl)) fun _ q125 => ?_;clear q124
          have q126 := ((((((Rp.nil q125.z).cons (q125.a 0 rfl)).cons (q125.a 4 rfl)).cons (q125.a 10 rfl)).cons (q125.a 11 rfl)).cons (q125.a 12 rfl))
          clear q125
          refine wpList_nil ?_
          exact ⟨_, rfl, hit, v2, k2, l2, q126, N2, (h1 _).symm.trans hcl, by omega, d.trans b⟩
        · rw [decide_eq_false he] at q123
          go_upto_region 12 with fail
          refine wp_cond_true (q123.e (j := 34) rfl) ?_
          go_upto_region 12 with fail
          refine wp_region_lit ?_
          refine q123.t (.int .i64 E) (ex_move rfl (q123.e (j := 7) rfl)) fun _ q124 => ?_;clear q123
          refine q124.t (.slice none 0 0) (ex_assign rfl rfl) fun _ q125 => ?_;clear q124
          refine q125.t (.int .i64 E) (ex_assign rfl (q125.e (j := 35) rfl)) fun _ q126 => ?_;clear q125
          rw [hE he] at hcl
          refine wpList_nil ?_
          go_wp2
          exact bodyPost_ret (results2_18 rfl (q126.a 2 rfl) (q126.a 3 rfl)) rfl ⟨.slice none 0 0, by rw [← hcl] <;> rfl, by rw [← hcl]; exact OwnY.nil _ _ _, d.trans b⟩
      · rw [decide_eq_false hk6] at q114
        rw [cls_cons, if_neg hk, if_neg hk6] at hcl
        go_upto_region 11 with fail
        refine wp_cond_false (q114.e (j := 25) rfl) ?_
        go_upto_region 11 with fail
        refine wp_region_lit ?_
        refine q114.t (.int .i64 (0)) (ex_move rfl (q114.e (j := 7) rfl)) fun _ q115 => ?_;clear q114
        refine q115.t (.bool (!decide ((0 : Int) = 0))) (ex_bin (Y := .int .i64 (0)) rfl (q115.e (j := 33) rfl) rfl (neS78 _ _ _ _ _)) fun _ q116 => ?_;clear q115
        refine wpList_nil ?_
        go_upto_region 13 with fail
        refine wp_cond_false (q116.e (j := 34) rfl) ?_
        go_upto_region 13 with fail
        refine wp_region_lit ?_
        refine q116.t (.int .i64 ((j + 1 : Nat) : Int)) (ex_bin (Y := .int .i64 (1)) rfl (q116.e (j := 12) rfl) rfl (add1C _ _ j (by omega) _)) fun _ q117 => ?_;clear q116
        refine q117.t (.int .i64 ((j + 1 : Nat) : Int)) (ex_move rfl (q117.e (j := 36) rfl)) fun _ q118 => ?_;clear q117
        have q119 := ((((((Rp.nil q118.z).cons (q118.a 0 rfl)).cons (q118.a 4 rfl)).cons (q118.a 10 rfl)).cons (q118.a 11 rfl)).cons (q118.a 12 rfl))
        clear q118
        refine wpList_nil ?_
        exact ⟨_, rfl, hit, v, k, l, q119, hN, hcl, by omega, d⟩
  · obtain rfl : j = L.length := by omega
    rw [cls_end] at hcl
    obtain ⟨av, cv, hv, _, _, _, _⟩ := hN.own.form
    subst hv
    go_upto_region 3 with fail
    refine wp_region_lit ?_
    refine q100.t (.bool false) (ex_bin rfl (q100.e (j := 12) rfl) (q100.e (j := 11) rfl) (ltF _ _ hit _)) fun _ q101 => ?_;clear q100
    refine wpList_nil ?_
    go_upto_region 14 with fail
    refine wp_cond_false (q101.e (j := 13) rfl) ?_
    go_upto_region 14 with fail
    refine wp_region_lit ?_
    refine q101.t (.pointer (some ⟨w1.heap.size, 0, none⟩)) (ex_fa rfl (q101.e (j := 4) rfl) (faNt0 _ _)) fun _ q102 => ?_;clear q101
    refine q102.t (.slice av l.length cv) (ex_ld rfl (q102.e (j := 37) rfl) (ldNtS hN.box)) fun _ q103 => ?_;clear q102
    refine q103.t (.slice av l.length cv) (ex_assign rfl (q103.e (j := 38) rfl)) fun _ q104 => ?_;clear q103
    refine q104.t (.int .i64 (0)) (ex_assign rfl rfl) fun _ q105 => ?_;clear q104
    refine wpList_nil ?_
    go_wp2
    exact bodyPost_ret (results2_18 rfl (q105.a 2 rfl) (q105.a 3 rfl)) rfl ⟨.slice av l.length cv, by rw [← hcl] <;> rfl, by rw [← hcl]; exact hN.own, d⟩
end Go.Proofs.Yteamgkadhlbflaa
