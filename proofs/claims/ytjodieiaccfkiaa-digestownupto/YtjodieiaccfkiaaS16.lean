import Derived.Test.YtjodieiaccfkiaaS15
namespace Go.Proofs.Ytjodieiaccfkiaa
open Go.RowKit Go.Maps
open Classical
set_option linter.unusedVariables false
set_option linter.unusedSimpArgs false

def yT9 : Lay Bool := ⟨4, 46, 1, 1, fun b => [.bool b], false⟩
theorem kT9b : yT9.Ok := ⟨by decide, fun x => rfl, fun x u h => by
    simp [yT9] at h
    subst h
    rfl, Try.underlying46, ⟨.bool false, by kernel_rfl, rfl⟩⟩
theorem alGv (w : World) : (Instr.alloc 29 true (.tuple #[])).run Try.prog w = .ok (.pointer (some ⟨w.heap.size, 0, none⟩)) (w.alloc (.cells #[.slice none 0 0, .slice none 0 0, .slice none 0 0, .slice none 0 0, .slice none 0 0, .slice none 0 0, .slice none 0 0, .slice none 0 0, .slice none 0 0, .slice none 0 0] 29)) := by kernel_rfl
theorem ixT9 (q o n c j : Nat) (hj : j < n) (w : World) : (Instr.indexAt 46 (.slice (some ⟨q, o, none⟩) n c) (.int .i64 (j : Int))).run Try.prog w = .ok (.pointer (some ⟨q, o + j, none⟩)) w := by
  have h1 : (j : Int) < (n : Int) := by omega
  go_simp
theorem updG {w w' : World} {r : Option Nat} (g : w.grownBy w' r) : Upd (fun k => r = some k) w w' := ⟨g.os, g.tape, g.output, g.size, fun k hk hn => g.block k hk (fun e => hn e.symm)⟩
/-- A Given, whatever is written elsewhere. -/
theorem GY.updS {E : Nat → Value} {S : Nat → Prop} {w w' : World} {b B : Nat} {va vb : Value} {La Lb : List (SV Int)} (G : GY yBy zByB 0 E w b B va vb La Lb) (u : Upd S w w') (hb : ¬ S b) (ha : ∀ k, va.ownBlock = some k → ¬ S k) (hv : ∀ k, vb.ownBlock = some k → ¬ S k) (hA : ∀ x ∈ La, ∀ k, x.v.ownBlock = some k → ¬ S k) (hB : ∀ x ∈ Lb, ∀ k, x.v.ownBlock = some k → ¬ S k) : GY yBy zByB 0 E w' b B va vb La Lb := by
  have hlt : b < w.heap.size := Nat.lt_of_lt_of_le G.lt G.ltB
  exact ⟨G.lt, Nat.le_trans G.ltB u.size, (u.cell (p := ⟨b, 0, none⟩) hlt hb).trans G.ca, (u.cell (p := ⟨b, 1, none⟩) hlt hb).trans G.cb, (u.frozen (p := ⟨b, 0, none⟩) hlt hb).trans G.fa, (u.frozen (p := ⟨b, 1, none⟩) hlt hb).trans G.fb, fun i h0 h1 h2 => (u.cell (p := ⟨b, i, none⟩) hlt hb).trans (G.ce i h0 h1 h2), G.oa.upd1 u ha, G.ob.upd1 u hv, G.ne, fun x hx => (G.da x hx).upd1 u (hA x hx), fun x hx => (G.db x hx).upd1 u (hB x hx)⟩
structure PI9 (w : World) (l : List (SV Int)) (q b j : Nat) (v va vb : Value) (La Lb : List (SV Int)) (wr : World) : Prop where
  qb : q < b
  wq : w.heap.size ≤ q
  hi : HI wr q (flB (l.take j))
  ov : OwnY yB9 (b + 1) wr v (flB (l.take j))
  gy : GY yBy zByB 0 (fun _ => .slice none 0 0) wr b (b + 1) va vb La Lb
  la : La.length = j
  md : La.map (·.D) = Lb.map (·.D)
  ne : ∀ x ∈ La, x.D ≠ []
  pa : ∀ x ∈ La, ∀ k, x.v.ownBlock = some k → v.ownBlock ≠ some k
  pb : ∀ x ∈ Lb, ∀ k, x.v.ownBlock = some k → v.ownBlock ≠ some k
  be : Below w.heap.size w wr
theorem PI9.later {w wr w' : World} {l : List (SV Int)} {q b j : Nat} {v va vb : Value} {La Lb : List (SV Int)} (h : PI9 w l q b j v va vb La Lb wr) (hb : Below wr.heap.size wr w') : PI9 w l q b j v va vb La Lb w' :=
  ⟨h.qb, h.wq, h.hi.later hb, h.ov.grow hb, h.gy.bel hb, h.la, h.md, h.ne, h.pa, h.pb, h.be.trans (hb.mono h.be.size)⟩
theorem SV.own {g c : Nat} {D : List Int} {k : Nat} (h : (SV.v (⟨some ⟨g, 0, none⟩, c, D⟩ : SV Int)).ownBlock = some k) : k = g := by
  simpa [SV.v, Value.ownBlock] using h.symm
/-- Behind Given.Bytes and Write. -/
theorem PI9.put {w wr r1 r2 : World} {l : List (SV Int)} {q b j : Nat} {v va vb va' vb' : Value} {La Lb : List (SV Int)} {x : SV Int} {g c' g5 k5 : Nat} (h : PI9 w l q b j v va vb La Lb wr) (G1 : GY yBy zByB 0 (fun _ => .slice none 0 0) r1 b (b + 1) va' vb' (La ++ [⟨some ⟨g, 0, none⟩, c', x.D ++ [90]⟩]) (Lb ++ [⟨some ⟨g5, 0, none⟩, k5, x.D ++ [90]⟩])) (u1 : Upd (fun k => k = b ∨ va.ownBlock = some k ∨ vb.ownBlock = some k) wr r1) (hg : wr.heap.size ≤ g) (hg5 : wr.heap.size ≤ g5)
    (hI : HI r2 q (flB (l.take j) ++ x.D)) (u2 : Upd (fun k => k = q) r1 r2) : HI r2 q (flB (l.take j) ++ x.D) ∧ OwnY yB9 (b + 1) r2 v (flB (l.take j)) ∧ GY yBy zByB 0 (fun _ => .slice none 0 0) r2 b (b + 1) va' vb' (La ++ [⟨some ⟨g, 0, none⟩, c', x.D ++ [90]⟩]) (Lb ++ [⟨some ⟨g5, 0, none⟩, k5, x.D ++ [90]⟩]) ∧ (∀ y ∈ La ++ [⟨some ⟨g, 0, none⟩, c', x.D ++ [90]⟩], ∀ k, y.v.ownBlock = some k → v.ownBlock ≠ some k) ∧ (∀ y ∈ Lb ++ [⟨some ⟨g5, 0, none⟩, k5, x.D ++ [90]⟩], ∀ k, y.v.ownBlock = some k → v.ownBlock ≠ some k) ∧ Below w.heap.size w r2 := by
  have hqb := h.qb
  have hwq := h.wq
  have o1 : OwnY yB9 (b + 1) r1 v (flB (l.take j)) := h.ov.upd1 u1 (fun k hk => by
    have hk1 := (h.ov.blk k hk).1
    rintro (e | e | e)
    · omega
    · exact OwnY.apart h.ov h.gy.oa (by decide) k hk e
    · exact OwnY.apart h.ov h.gy.ob (by decide) k hk e)
  have o2 : OwnY yB9 (b + 1) r2 v (flB (l.take j)) := o1.upd1 u2 (fun k hk => by have := (o1.blk k hk).1; show ¬ k = q; omega)
  have G2 := G1.updS u2 (by show ¬ b = q; omega) (fun k hk => by have := (G1.oa.blk k hk).1; show ¬ k = q; omega) (fun k hk => by have := (G1.ob.blk k hk).1; show ¬ k = q; omega) (fun y hy k hk => by have := ((G1.da y hy).blk k hk).1; show ¬ k = q; omega) (fun y hy k hk => by have := ((G1.db y hy).blk k hk).1; show ¬ k = q; omega)
  refine ⟨hI, o2, G2, fun y hy k hk => ?_, fun y hy k hk => ?_, ?_⟩
  · rcases List.mem_append.1 hy with hy | hy
    · exact h.pa y hy k hk
    · obtain rfl := List.mem_singleton.1 hy
      intro e
      have h1 := (h.ov.blk k e).2
      have h2 := SV.own hk
      omega
  · rcases List.mem_append.1 hy with hy | hy
    · exact h.pb y hy k hk
    · obtain rfl := List.mem_singleton.1 hy
      intro e
      have h1 := (h.ov.blk k e).2
      have h2 := SV.own hk
      omega
  · have hs := h.be.size
    have hbs : b < wr.heap.size := Nat.lt_of_lt_of_le h.gy.lt h.gy.ltB
    refine (h.be.trans (u1.below hs (fun k hk => ?_))).trans (u2.below (Nat.le_trans hs u1.size) (fun k hk => by show w.heap.size ≤ k; have : k = q := hk; omega))
    rcases hk with e | e | e
    · omega
    · have := (h.gy.oa.blk k e).1; omega
    · have := (h.gy.ob.blk k e).1; omega
set_option maxRecDepth 100000 in
set_option maxHeartbeats 2000000 in
theorem pieces19 (D0 : List Int) (a0 : Option Addr) (c0 : Nat) (l : List (SV Int)) (a1 : Option Addr) (c1 : Nat) (A : List Bool) (a2 : Option Addr) (c2 : Nat) (w : World) (h0 : SlY yB9 w a0 D0.length c0 D0) (h1 : SlY zB9 w a1 l.length c1 l) (hp : ∀ x ∈ l, SlY yB9 w x.a x.D.length x.c x.D) (h2 : SlY yT9 w a2 A.length c2 A) (m0 : D0.length ≤ 1048576) (m1 : (flB l).length ≤ 1048576) (m2 : l.length ≤ 1048576) :
    Calls Try.prog 5 #[.slice a0 D0.length c0, .slice a1 l.length c1, .slice a2 A.length c2] w fun e w' => e = .returned (.bool true) ∧ Below w.heap.size w w' := by
  go_enter Try.func5, Try.ntmps5
  go_upto_region 0 with fail
  refine wp_region_lit ?_
  refine vl_gen (fun T => Rp T 99 [(2, gw true (.slice a2 A.length c2)), (1, gw true (.slice a1 l.length c1)), (0, gw true (.slice a0 D0.length c0))]) ((((Rp.nil rfl).cons rfl).cons rfl).cons rfl) (fun Z0 q0 => ?_)
  refine q0.t (.bool false) (ex_assign rfl rfl) fun _ q1 => ?_;clear q0
  refine wpList_nil ?_
  go_upto_region 1 with fail
  refine wp_region_lit ?_
  refine vcallP (want_none rfl) (ex_call (args := #[]) rfl (by simp) rfl) (alive19 w) rfl q1.z (by decide) ?_
  rintro e w1 ⟨rfl, b1⟩
  refine ⟨_, rfl, q1.k fun _ q2 => ?_⟩;clear q1
  have z1 := b1.size
  refine q2.t (.bool false) (ex_not rfl (q2.e (j := 11) rfl)) fun _ q3 => ?_;clear q2
  refine wpList_nil ?_
  go_upto_region 3 with fail
  refine wp_cond_false (q3.e (j := 12) rfl) ?_
  go_upto_region 3 with fail
  refine wp_region_lit ?_
  refine vcallP (want_none rfl) (ex_call (args := #[]) rfl (by simp) rfl) (new19 w1) rfl q3.z (by decide) ?_
  rintro e w2 ⟨q, rfl, hq, I2, b2⟩
  refine ⟨_, rfl, q3.k fun _ q4 => ?_⟩;clear q3
  have d2 : Below w.heap.size w w2 := b1.trans (b2.mono z1)
  have z2 := d2.size
  have hwq : w.heap.size ≤ q := Nat.le_trans z1 hq
  refine q4.t (.pointer (some ⟨q, 0, none⟩)) (ex_assign rfl (q4.e (j := 13) rfl)) fun _ q5 => ?_;clear q4
  have q6 := (((((Rp.nil q5.z).cons (q5.a 0 rfl)).cons (q5.a 1 rfl)).cons (q5.a 2 rfl)).cons (q5.a 7 rfl))
  clear q5
  refine wpList_nil ?_
  go_upto_region 4 with fail
  refine wp_region_lit ?_
  refine q6.t (.pointer (some ⟨q, 0, none⟩)) (ex_move rfl (q6.e (j := 7) rfl)) fun _ q7 => ?_;clear q6
  refine q7.t (.bool false) (ex_bin (Y := .pointer none) rfl (q7.e (j := 14) rfl) rfl (eqlP _ _ q _)) fun _ q8 => ?_;clear q7
  refine q8.t (.bool false) (ex_move rfl (q8.e (j := 15) rfl)) fun _ q9 => ?_;clear q8
  refine vl (true && (false == false)) (.pointer (some ⟨q, 0, none⟩)) (want_g rfl rfl (q9.a 16 rfl)) (fun hc => ex_move rfl (q9.e (j := 7) rfl)) rfl q9.z (by decide) (q9.k fun _ q10 => ?_);clear q9
  refine vcallP (show Region.wanted _ _ = (true && (false == false)) from want_g rfl rfl (q10.a 16 rfl)) (ex_call rfl (by simp only [List.map_toArray, List.map_cons, List.map_nil, (q10.e (j := 17) rfl), evc] <;> rfl) rfl) (len19 q [] w2 I2) rfl q10.z (by decide) ?_
  rintro e w3 ⟨rfl, rfl⟩
  refine ⟨_, rfl, q10.k fun _ q11 => ?_⟩;clear q10
  refine vl (true && (false == false)) (.bool false) (want_g rfl rfl (q11.a 16 rfl)) (fun hc => ex_bin (Y := .int .i64 0) rfl (q11.e (j := 18) rfl) rfl (by rw [neqC]; rfl)) rfl q11.z (by decide) (q11.k fun _ q12 => ?_);clear q11
  refine q12.t (.bool false) (ex_or (z := false) rfl (q12.a 16 rfl) (q12.a 19 rfl) rfl) fun _ q13 => ?_;clear q12
  refine q13.t (.bool false) (ex_move rfl (q13.e (j := 20) rfl)) fun _ q14 => ?_;clear q13
  refine vl (true && (false == false)) (.pointer (some ⟨q, 0, none⟩)) (want_g rfl rfl (q14.a 21 rfl)) (fun hc => ex_move rfl (q14.e (j := 7) rfl)) rfl q14.z (by decide) (q14.k fun _ q15 => ?_);clear q14
  refine vcallP (show Region.wanted _ _ = (true && (false == false)) from want_g rfl rfl (q15.a 21 rfl)) (ex_call rfl (by simp only [List.map_toArray, List.map_cons, List.map_nil, (q15.e (j := 22) rfl), evc] <;> rfl) rfl) (hsum19 q [] w3 I2 (by decide)) rfl q15.z (by decide) ?_
  rintro e w4 ⟨rfl, b4⟩
  refine ⟨_, rfl, q15.k fun _ q16 => ?_⟩;clear q15
  have d4 : Below w.heap.size w w4 := d2.trans (b4.mono z2)
  have z4 := d4.size
  have I4 := I2.later b4
  refine vcallP (show Region.wanted _ _ = (true && (false == false)) from want_g rfl rfl (q16.a 21 rfl)) (ex_call (args := #[.slice none 0 0]) rfl (by simp only [List.map_toArray, List.map_cons, List.map_nil, evc] <;> rfl) rfl) (sum19 [] none 0 w4 ⟨rfl, Nat.le_refl _, Nat.zero_le _, fun _ => ⟨rfl, rfl⟩, fun x hx => by cases hx⟩ (by decide)) rfl q16.z (by decide) ?_
  rintro e w5 ⟨rfl, b5⟩
  refine ⟨_, rfl, q16.k fun _ q17 => ?_⟩;clear q16
  have d5 : Below w.heap.size w w5 := d4.trans (b5.mono z4)
  have z5 := d5.size
  have I5 := I4.later b5
  refine vl (true && (false == false)) (.bool false) (want_g rfl rfl (q17.a 21 rfl)) (fun hc => ex_bin rfl (q17.e (j := 23) rfl) (q17.e (j := 24) rfl) (by rw [neqH _ _ (show (sumF []).length = 32 from out_len _) (show (sumF []).length = 32 from out_len _), decide_eq_true rfl]; rfl)) rfl q17.z (by decide) (q17.k fun _ q18 => ?_);clear q17
  refine q18.t (.bool false) (ex_or (z := false) rfl (q18.a 21 rfl) (q18.a 25 rfl) rfl) fun _ q19 => ?_;clear q18
  have q20 := ((((((Rp.nil q19.z).cons (q19.a 0 rfl)).cons (q19.a 1 rfl)).cons (q19.a 2 rfl)).cons (q19.a 7 rfl)).cons (q19.a 26 rfl))
  clear q19
  refine wpList_nil ?_
  go_upto_region 6 with fail
  refine wp_cond_false (q20.e (j := 26) rfl) ?_
  go_upto_region 6 with fail
  refine wp_region_lit ?_
  refine q20.t (.pointer (some ⟨q, 0, none⟩)) (ex_move rfl (q20.e (j := 7) rfl)) fun _ q21 => ?_;clear q20
  refine q21.t (.slice a0 D0.length c0) (ex_move rfl (q21.e (j := 0) rfl)) fun _ q22 => ?_;clear q21
  refine vcallP (want_none rfl) (ex_call rfl (by simp only [List.map_toArray, List.map_cons, List.map_nil, (q22.e (j := 27) rfl), (q22.e (j := 28) rfl), evc] <;> rfl) rfl) (write19 q [] D0 a0 c0 w5 I5 (h0.on d5 (Nat.le_refl _)) (fun z hz hne => by obtain ⟨q9, o9, e9, h9, _⟩ := h0.place hne; rw [hz] at e9; obtain rfl := Option.some.inj e9; show q9 ≠ q; omega) (by simp; omega)) rfl q22.z (by decide) ?_
  rintro e w6 ⟨rfl, I6, u6⟩
  refine ⟨_, rfl, q22.k fun _ q23 => ?_⟩;clear q22
  have hq5 := I5.lt
  have d6 : Below w.heap.size w w6 := d5.trans (bel_ge u6 z5 hwq)
  have z6 := d6.size
  have q24 := ((((Rp.nil q23.z).cons (q23.a 1 rfl)).cons (q23.a 2 rfl)).cons (q23.a 7 rfl))
  clear q23
  refine wpList_nil ?_
  go_upto_region 7 with fail
  refine wp_region_lit ?_
  refine q24.t (.pointer (some ⟨q, 0, none⟩)) (ex_move rfl (q24.e (j := 7) rfl)) fun _ q25 => ?_;clear q24
  refine vcallP (want_none rfl) (ex_call rfl (by simp only [List.map_toArray, List.map_cons, List.map_nil, (q25.e (j := 30) rfl), evc] <;> rfl) rfl) (reset19 q _ w6 I6) rfl q25.z (by decide) ?_
  rintro e w7 ⟨rfl, I7, u7⟩
  refine ⟨_, rfl, q25.k fun _ q26 => ?_⟩;clear q25
  have d7 : Below w.heap.size w w7 := d6.trans (bel_ge u7 z6 hwq)
  have z7 := d7.size
  have hq7 := I7.lt
  have q27 := ((((Rp.nil q26.z).cons (q26.a 1 rfl)).cons (q26.a 2 rfl)).cons (q26.a 7 rfl))
  clear q26
  refine wpList_nil ?_
  go_upto_region 8 with fail
  refine wp_region_lit ?_
  refine q27.t (.slice none 0 0) (ex_assign rfl rfl) fun _ q28 => ?_;clear q27
  refine wpList_nil ?_
  go_upto_region 9 with fail
  refine wp_region_lit ?_
  obtain ⟨w8, hw8⟩ : ∃ y, y = w7.alloc (.cells #[.slice none 0 0, .slice none 0 0, .slice none 0 0, .slice none 0 0, .slice none 0 0, .slice none 0 0, .slice none 0 0, .slice none 0 0, .slice none 0 0, .slice none 0 0] 29) := ⟨_, rfl⟩
  refine vw (.pointer (some ⟨w7.heap.size, 0, none⟩)) w8 (want_none rfl) (ex_al rfl (by rw [hw8]; exact alGv _)) rfl q28.z (by decide) (q28.k fun _ q29 => ?_);clear q28
  have G8 : GY yBy zByB 0 (fun _ => .slice none 0 0) w8 w7.heap.size (w7.heap.size + 1) (.slice none 0 0) (.slice none 0 0) [] [] := by rw [hw8]; exact GY.new yBy zByB 0 (by decide) w7 _
  have b8 : Below w7.heap.size w7 w8 := by rw [hw8]; exact (Below.refl _ _).alloc (Nat.le_refl _) _
  clear hw8
  have d8 : Below w.heap.size w w8 := d7.trans (b8.mono z7)
  have P0 : PI9 w l q w7.heap.size 0 (.slice none 0 0) (.slice none 0 0) (.slice none 0 0) [] [] w8 := ⟨hq7, hwq, I7.later b8, OwnY.nil _ _ _, G8, rfl, rfl, (fun x hx => by cases hx), (fun x hx => by cases hx), (fun x hx => by cases hx), d8⟩
  obtain ⟨b, hb⟩ : ∃ b, b = w7.heap.size := ⟨_, rfl⟩
  rw [← hb] at P0 q29
  clear G8 I7 I6 I5 I4 I2 hq7 hb b8
  refine wpList_nil ?_
  go_upto_region 10 with fail
  refine wp_region_lit ?_
  refine q29.t (.int .i64 ((0 : Nat) : Int)) (ex_assign rfl rfl) fun _ q30 => ?_;clear q29
  have q31 := (((((((Rp.nil q30.z).cons (q30.a 1 rfl)).cons (q30.a 2 rfl)).cons (q30.a 7 rfl)).cons (q30.a 8 rfl)).cons (q30.a 9 rfl)).cons (q30.a 10 rfl))
  clear q30
  refine wpList_nil ?_
  go_upto_region 11 with fail
  refine v_loop 10 l.length (fun j T wr => ∃ v va vb La Lb, Rp T 99 [(10, gw true (.int .i64 ((j : Nat) : Int))), (9, gw true (.pointer (some ⟨b, 0, none⟩))), (8, gw true v), (7, gw true (.pointer (some ⟨q, 0, none⟩))), (2, gw true (.slice a2 A.length c2)), (1, gw true (.slice a1 l.length c1))] ∧ Hid (PI9 w l q b j v va vb La Lb wr)) (fun j T w h => by obtain ⟨v, va, vb, La, Lb, h, _⟩ := h; exact h.a 10 rfl) ⟨_, _, _, _, _, q31, P0⟩ ?_
  clear q31 P0
  intro j T wr hj hh
  obtain ⟨v, va, vb, La, Lb, q100, HJ⟩ := hh
  have PJ := HJ.out
  clear HJ
  have br := PJ.be
  have zr := br.size
  by_cases hit : j < l.length
  · obtain ⟨x, hx⟩ : ∃ x, l[j]? = some x := ⟨_, List.getElem?_eq_getElem hit⟩
    have hua := flB_at hx
    have hle := flB_le l (j + 1)
    rw [hua, List.length_append] at hle
    have hxs := hp x (List.mem_of_getElem? hx)
    obtain ⟨qa, oa, hqa, hqal, hlie⟩ := h1.place (by rintro rfl; simp at hit)
    have hcx : ∀ {W : World}, Below w.heap.size w W → W.cell? ⟨qa, oa + j, none⟩ = some (.slice x.a x.D.length x.c) := fun hW => by
      have := (hW.cell (p := ⟨qa, oa + j * zB9.k + 0, none⟩) hqal).trans (hlie j x hx 0 _ rfl)
      simpa [zB9, yS] using this
    go_upto_region 11 with fail
    refine wp_region_lit ?_
    refine q100.t (.int .i64 ((j : Nat) : Int)) (ex_move rfl (q100.e (j := 10) rfl)) fun _ q101 => ?_;clear q100
    refine q101.t (.slice a1 l.length c1) (ex_move rfl (q101.e (j := 1) rfl)) fun _ q102 => ?_;clear q101
    refine q102.t (.int .i64 ((l.length : Nat) : Int)) (ex_lenG rfl rfl Try.underlying23 (q102.e (j := 33) rfl)) fun _ q103 => ?_;clear q102
    refine q103.t (.bool true) (ex_bin rfl (q103.e (j := 32) rfl) (q103.e (j := 34) rfl) (ltT _ _ hit _)) fun _ q104 => ?_;clear q103
    refine wpList_nil ?_
    go_upto_region 13 with fail
    refine wp_cond_true (q104.e (j := 35) rfl) ?_
    go_upto_region 13 with fail
    refine wp_region_lit ?_
    refine q104.t (.pointer (some ⟨q, 0, none⟩)) (ex_move rfl (q104.e (j := 7) rfl)) fun _ q105 => ?_;clear q104
    refine q105.t (.slice a1 l.length c1) (ex_move rfl (q105.e (j := 1) rfl)) fun _ q106 => ?_;clear q105
    refine q106.t (.int .i64 ((j : Nat) : Int)) (ex_move rfl (q106.e (j := 10) rfl)) fun _ q107 => ?_;clear q106
    refine q107.t (.pointer (some ⟨qa, (oa + j), none⟩)) (ex_ix rfl (q107.e (j := 39) rfl) (q107.e (j := 40) rfl) (by rw [hqa]; exact ixBB qa oa l.length c1 j hit _)) fun _ q108 => ?_;clear q107
    refine q108.t (.slice x.a x.D.length x.c) (ex_ld rfl (q108.e (j := 41) rfl) (ldBs (hcx br))) fun _ q109 => ?_;clear q108
    refine vcallP (want_none rfl) (ex_call rfl (by simp only [List.map_toArray, List.map_cons, List.map_nil, (q109.e (j := 9) rfl), (q109.e (j := 42) rfl), evc] <;> rfl) rfl) (given_byG (fun _ => .slice none 0 0) b (b + 1) va vb La Lb x.a x.D.length x.c x.D wr PJ.gy (hxs.on br (Nat.le_refl _)) (by omega) (by have := PJ.la; omega) (by have := congrArg List.length PJ.md; simpa using this.symm)) rfl q109.z (by decide) ?_
    rintro e r1 ⟨g, c', va', vb', g5, k5, rfl, s1, hg, G1, u1, _, _, hg5⟩
    refine ⟨_, rfl, q109.k fun _ q110 => ?_⟩;clear q109
    have I1 : HI r1 q (flB (l.take j)) := PJ.hi.upd u1 (by have := PJ.qb; rintro (e | e | e); omega; have := (PJ.gy.oa.blk q e).1; omega; have := (PJ.gy.ob.blk q e).1; omega)
    have hql := PJ.hi.lt
    refine vcallP (want_none rfl) (ex_call rfl (by simp only [List.map_toArray, List.map_cons, List.map_nil, (q110.e (j := 38) rfl), (q110.e (j := 43) rfl), evc] <;> rfl) rfl) (write19 q (flB (l.take j)) x.D (some ⟨g, 0, none⟩) c' r1 I1 s1 (fun z hz _ => by obtain rfl := Option.some.inj hz; show g ≠ q; omega) (by omega)) rfl q110.z (by decide) ?_
    rintro e r2 ⟨rfl, I2, u2⟩
    refine ⟨_, rfl, q110.k fun _ q111 => ?_⟩;clear q110
    obtain ⟨hI2, o2, G2, pa2, pb2, br2⟩ := PJ.put (x := x) G1 u1 hg hg5 I2 u2
    have z2 := br2.size
    clear I1 s1 u1 u2 G1 I2
    refine wpList_nil ?_
    go_upto_region 14 with fail
    refine wp_region_lit ?_
    refine q111.t (v) (ex_move rfl (q111.e (j := 8) rfl)) fun _ q112 => ?_;clear q111
    refine q112.t (.slice a1 l.length c1) (ex_move rfl (q112.e (j := 1) rfl)) fun _ q113 => ?_;clear q112
    refine q113.t (.int .i64 ((j : Nat) : Int)) (ex_move rfl (q113.e (j := 10) rfl)) fun _ q114 => ?_;clear q113
    refine q114.t (.pointer (some ⟨qa, (oa + j), none⟩)) (ex_ix rfl (q114.e (j := 46) rfl) (q114.e (j := 47) rfl) (by rw [hqa]; exact ixBB qa oa l.length c1 j hit _)) fun _ q115 => ?_;clear q114
    refine q115.t (.slice x.a x.D.length x.c) (ex_ld rfl (q115.e (j := 48) rfl) (ldBs (hcx br2))) fun _ q116 => ?_;clear q115
    obtain ⟨v3, r3, ha3, o3, g3, n3⟩ := run_appY kB9 r2 22 (b + 1) (flB (l.take j)) v x.a x.D.length x.c x.D (hxs.on br2 (Nat.le_refl _)) o2 G2.ltB (by unfold maxLen; omega) (by show ((flB (l.take j)).length + x.D.length) * 1 ≤ _; omega)
    rw [← hua] at o3 hI2
    have uA := updG g3
    have I3 : HI r3 q (flB (l.take (j + 1))) := hI2.upd uA (fun e => by have := (o2.blk q e).1; have := PJ.qb; omega)
    have G3 := G2.updS uA (fun e => by have := (o2.blk b e).1; omega) (fun k hk e => OwnY.apart o2 G2.oa (by decide) k e hk) (fun k hk e => OwnY.apart o2 G2.ob (by decide) k e hk) (fun y hy k hk e => pa2 y hy k hk e) (fun y hy k hk e => pb2 y hy k hk e)
    have br3 : Below w.heap.size w r3 := br2.trans (uA.below z2 (fun k e => by have := (o2.blk k e).1; have := PJ.qb; have := PJ.wq; omega))
    have pa3 : ∀ y ∈ La ++ [⟨some ⟨g, 0, none⟩, c', x.D ++ [90]⟩], ∀ k, y.v.ownBlock = some k → v3.ownBlock ≠ some k := fun y hy k hk => by
      rcases n3 with e | ⟨k2, e, hk2⟩
      · rw [e]; exact pa2 y hy k hk
      · rw [e]; intro e2; have := Option.some.inj e2; have := ((G2.da y hy).blk k hk).2; omega
    have pb3 : ∀ y ∈ Lb ++ [⟨some ⟨g5, 0, none⟩, k5, x.D ++ [90]⟩], ∀ k, y.v.ownBlock = some k → v3.ownBlock ≠ some k := fun y hy k hk => by
      rcases n3 with e | ⟨k2, e, hk2⟩
      · rw [e]; exact pb2 y hy k hk
      · rw [e]; intro e2; have := Option.some.inj e2; have := ((G2.db y hy).blk k hk).2; omega
    have P3 : PI9 w l q b (j + 1) v3 va' vb' (La ++ [⟨some ⟨g, 0, none⟩, c', x.D ++ [90]⟩]) (Lb ++ [⟨some ⟨g5, 0, none⟩, k5, x.D ++ [90]⟩]) r3 := ⟨PJ.qb, PJ.wq, I3, o3, G3, by rw [List.length_append, PJ.la]; rfl, by rw [List.map_append, List.map_append, PJ.md]; rfl, fun y hy => (List.mem_append.1 hy).elim (PJ.ne y) (fun h => by obtain rfl := List.mem_singleton.1 h; simp), pa3, pb3, br3⟩
    clear I3 G3 pa3 pb3 hI2 o2 G2 pa2 pb2 uA
    refine vw (v3) r3 (want_none rfl) (ex_app18 rfl (q116.e (j := 45) rfl) (q116.e (j := 49) rfl) ha3) rfl q116.z (by decide) (q116.k fun _ q117 => ?_);clear q116
    refine q117.t (v3) (ex_assign rfl (q117.e (j := 50) rfl)) fun _ q118 => ?_;clear q117
    have q119 := (((((((Rp.nil q118.z).cons (q118.a 1 rfl)).cons (q118.a 2 rfl)).cons (q118.a 7 rfl)).cons (q118.a 8 rfl)).cons (q118.a 9 rfl)).cons (q118.a 10 rfl))
    clear q118
    refine wpList_nil ?_
    go_upto_region 15 with fail
    refine wp_region_lit ?_
    refine q119.t (.slice a2 A.length c2) (ex_move rfl (q119.e (j := 2) rfl)) fun _ q120 => ?_;clear q119
    refine q120.t (.int .i64 ((A.length : Nat) : Int)) (ex_lenG rfl rfl Try.underlying46 (q120.e (j := 51) rfl)) fun _ q121 => ?_;clear q120
    by_cases hA : 0 < A.length
    · have hm : j % A.length < A.length := Nat.mod_lt _ hA
      obtain ⟨bt, hbt⟩ : ∃ bt, A[j % A.length]? = some bt := ⟨_, List.getElem?_eq_getElem hm⟩
      obtain ⟨qt, ot, hqt, hqtl, hlt⟩ := h2.place (by rintro rfl; simp at hA)
      have hct : r3.cell? ⟨qt, ot + j % A.length, none⟩ = some (.bool bt) := by
        have := (br3.cell (p := ⟨qt, ot + (j % A.length) * yT9.k + 0, none⟩) hqtl).trans (hlt _ bt hbt 0 _ rfl)
        simpa [yT9] using this
      refine q121.t (.bool true) (ex_bin (Y := .int .i64 0) rfl (q121.e (j := 52) rfl) rfl (by rw [gtrC, decide_eq_true (by omega)])) fun _ q122 => ?_;clear q121
      refine q122.t (.bool true) (ex_move rfl (q122.e (j := 53) rfl)) fun _ q123 => ?_;clear q122
      refine vl (true && (true == true)) (.slice a2 A.length c2) (want_g rfl rfl (q123.a 54 rfl)) (fun hc => ex_move rfl (q123.e (j := 2) rfl)) rfl q123.z (by decide) (q123.k fun _ q124 => ?_);clear q123
      refine vl (true && (true == true)) (.int .i64 ((j : Nat) : Int)) (want_g rfl rfl (q124.a 54 rfl)) (fun hc => ex_move rfl (q124.e (j := 10) rfl)) rfl q124.z (by decide) (q124.k fun _ q125 => ?_);clear q124
      refine vl (true && (true == true)) (.slice a2 A.length c2) (want_g rfl rfl (q125.a 54 rfl)) (fun hc => ex_move rfl (q125.e (j := 2) rfl)) rfl q125.z (by decide) (q125.k fun _ q126 => ?_);clear q125
      refine vl (true && (true == true)) (.int .i64 ((A.length : Nat) : Int)) (want_g rfl rfl (q126.a 54 rfl)) (fun hc => ex_lenG rfl rfl Try.underlying46 (q126.e (j := 57) rfl)) rfl q126.z (by decide) (q126.k fun _ q127 => ?_);clear q126
      refine vl (true && (true == true)) (.int .i64 ((j % A.length : Nat) : Int)) (want_g rfl rfl (q127.a 54 rfl)) (fun hc => ex_bin rfl (q127.e (j := 56) rfl) (q127.e (j := 58) rfl) (remC _ _ j A.length hA (by omega) _)) rfl q127.z (by decide) (q127.k fun _ q128 => ?_);clear q127
      refine vl (true && (true == true)) (.pointer (some ⟨qt, (ot + j % A.length), none⟩)) (want_g rfl rfl (q128.a 54 rfl)) (fun hc => ex_ix rfl (q128.e (j := 55) rfl) (q128.e (j := 59) rfl) (by rw [hqt]; exact ixT9 qt ot A.length c2 _ hm _)) rfl q128.z (by decide) (q128.k fun _ q129 => ?_);clear q128
      refine vl (true && (true == true)) (.bool bt) (want_g rfl rfl (q129.a 54 rfl)) (fun hc => ex_ld rfl (q129.e (j := 60) rfl) (ldBo hct)) rfl q129.z (by decide) (q129.k fun _ q130 => ?_);clear q129
      refine q130.t (.bool bt) (ex_and (z := bt) rfl (q130.a 54 rfl) (q130.a 61 rfl) rfl) fun _ q131 => ?_;clear q130
      refine q131.t (.bool bt) (ex_move rfl (q131.e (j := 62) rfl)) fun _ q132 => ?_;clear q131
      have q133 := ((((((((Rp.nil q132.z).cons (q132.a 1 rfl)).cons (q132.a 2 rfl)).cons (q132.a 7 rfl)).cons (q132.a 8 rfl)).cons (q132.a 9 rfl)).cons (q132.a 10 rfl)).cons (q132.a 63 rfl))
      clear q132
      cases bt with
      | true =>
        obtain ⟨a9, c9, hv9, s9, _⟩ := P3.ov.sl kB9
        have hsl : (sumF (flB (l.take (j + 1)))).length = 32 := out_len _
        have hll : (flB (l.take (j + 1))).length ≤ (flB l).length := flB_le l (j + 1)
        refine vl (true && (true == true)) (.pointer (some ⟨q, 0, none⟩)) (want_g rfl rfl (q133.a 63 rfl)) (fun hc => ex_move rfl (q133.e (j := 7) rfl)) rfl q133.z (by decide) (q133.k fun _ q134 => ?_);clear q133
        refine vcallP (show Region.wanted _ _ = (true && (true == true)) from want_g rfl rfl (q134.a 63 rfl)) (ex_call rfl (by simp only [List.map_toArray, List.map_cons, List.map_nil, (q134.e (j := 64) rfl), evc] <;> rfl) rfl) (hsum19 q (flB (l.take (j + 1))) r3 P3.hi (by omega)) rfl q134.z (by decide) ?_
        rintro e r4 ⟨rfl, b4⟩
        refine ⟨_, rfl, q134.k fun _ q135 => ?_⟩;clear q134
        have P4 := P3.later b4
        have s4 := s9.on b4 (Nat.le_refl _)
        refine vl (true && (true == true)) (.slice a9 (flB (l.take (j + 1))).length c9) (want_g rfl rfl (q135.a 63 rfl)) (fun hc => ex_move rfl ((q135.e (j := 8) rfl).trans hv9)) rfl q135.z (by decide) (q135.k fun _ q136 => ?_);clear q135
        refine vcallP (show Region.wanted _ _ = (true && (true == true)) from want_g rfl rfl (q136.a 63 rfl)) (ex_call rfl (by simp only [List.map_toArray, List.map_cons, List.map_nil, (q136.e (j := 66) rfl), evc] <;> rfl) rfl) (sum19 (flB (l.take (j + 1))) a9 c9 r4 s4 (by omega)) rfl q136.z (by decide) ?_
        rintro e r5 ⟨rfl, b5⟩
        refine ⟨_, rfl, q136.k fun _ q137 => ?_⟩;clear q136
        have P5 := P4.later b5
        refine vl (true && (true == true)) (.bool false) (want_g rfl rfl (q137.a 63 rfl)) (fun hc => ex_bin rfl (q137.e (j := 65) rfl) (q137.e (j := 67) rfl) (by rw [neqH _ _ hsl hsl, decide_eq_true rfl]; rfl)) rfl q137.z (by decide) (q137.k fun _ q138 => ?_);clear q137
        refine vl (true && (true == true)) (.bool false) (want_g rfl rfl (q138.a 63 rfl)) (fun hc => ex_move rfl (q138.e (j := 68) rfl)) rfl q138.z (by decide) (q138.k fun _ q139 => ?_);clear q138
        refine vl ((true && (true == true)) && (false == false)) (.pointer (some ⟨q, 0, none⟩)) (want_g rfl rfl (q139.a 69 rfl)) (fun hc => ex_move rfl (q139.e (j := 7) rfl)) rfl q139.z (by decide) (q139.k fun _ q140 => ?_);clear q139
        refine vcallP (show Region.wanted _ _ = ((true && (true == true)) && (false == false)) from want_g rfl rfl (q140.a 69 rfl)) (ex_call rfl (by simp only [List.map_toArray, List.map_cons, List.map_nil, (q140.e (j := 70) rfl), evc] <;> rfl) rfl) (len19 q (flB (l.take (j + 1))) r5 P5.hi) rfl q140.z (by decide) ?_
        rintro e r6 ⟨rfl, rfl⟩
        refine ⟨_, rfl, q140.k fun _ q141 => ?_⟩;clear q140
        refine vl ((true && (true == true)) && (false == false)) (.slice a9 (flB (l.take (j + 1))).length c9) (want_g rfl rfl (q141.a 69 rfl)) (fun hc => ex_move rfl ((q141.e (j := 8) rfl).trans hv9)) rfl q141.z (by decide) (q141.k fun _ q142 => ?_);clear q141
        refine vl ((true && (true == true)) && (false == false)) (.int .i64 (((flB (l.take (j + 1))).length : Nat) : Int)) (want_g rfl rfl (q142.a 69 rfl)) (fun hc => ex_lenG rfl rfl Try.underlying22 (q142.e (j := 72) rfl)) rfl q142.z (by decide) (q142.k fun _ q143 => ?_);clear q142
        refine vl ((true && (true == true)) && (false == false)) (.bool false) (want_g rfl rfl (q143.a 69 rfl)) (fun hc => ex_bin rfl (q143.e (j := 71) rfl) (q143.e (j := 73) rfl) (by rw [neqC, decide_eq_true rfl]; rfl)) rfl q143.z (by decide) (q143.k fun _ q144 => ?_);clear q143
        refine vl (true && (true == true)) (.bool false) (want_g rfl rfl (q144.a 63 rfl)) (fun hc => ex_or (z := false) rfl (q144.a 69 rfl) (q144.a 74 rfl) rfl) rfl q144.z (by decide) (q144.k fun _ q145 => ?_);clear q144
        refine q145.t (.bool false) (ex_and (z := false) rfl (q145.a 63 rfl) (q145.a 75 rfl) rfl) fun _ q146 => ?_;clear q145
        have q147 := ((((((((Rp.nil q146.z).cons (q146.a 1 rfl)).cons (q146.a 2 rfl)).cons (q146.a 7 rfl)).cons (q146.a 8 rfl)).cons (q146.a 9 rfl)).cons (q146.a 10 rfl)).cons (q146.a 76 rfl))
        clear q146
        refine wpList_nil ?_
        go_upto_region 12 with fail
        refine wp_cond_false (q147.e (j := 76) rfl) ?_
        go_upto_region 12 with fail
        refine wp_region_lit ?_
        refine q147.t (.int .i64 ((j : Nat) : Int)) (ex_move rfl (q147.e (j := 10) rfl)) fun _ q148 => ?_;clear q147
        refine q148.t (.int .i64 ((j + 1 : Nat) : Int)) (ex_bin rfl (q148.e (j := 36) rfl) rfl (add1C _ _ j (by omega) _)) fun _ q149 => ?_;clear q148
        refine q149.t (.int .i64 ((j + 1 : Nat) : Int)) (ex_assign rfl (q149.e (j := 37) rfl)) fun _ q150 => ?_;clear q149
        have q151 := (((((((Rp.nil q150.z).cons (q150.a 1 rfl)).cons (q150.a 2 rfl)).cons (q150.a 7 rfl)).cons (q150.a 8 rfl)).cons (q150.a 9 rfl)).cons (q150.a 10 rfl))
        clear q150
        refine wpList_nil ?_
        exact ⟨_, rfl, hit, v3, _, _, _, _, q151, P5⟩
      | false =>
        refine vl (true && (false == true)) (.bool false) (want_g rfl rfl (q133.a 63 rfl)) (fun hc => absurd hc (by decide)) rfl q133.z (by decide) (q133.k fun _ q134 => ?_);clear q133
        refine vl (true && (false == true)) (.bool false) (want_g rfl rfl (q134.a 63 rfl)) (fun hc => absurd hc (by decide)) rfl q134.z (by decide) (q134.k fun _ q135 => ?_);clear q134
        refine vl (true && (false == true)) (.bool false) (want_g rfl rfl (q135.a 63 rfl)) (fun hc => absurd hc (by decide)) rfl q135.z (by decide) (q135.k fun _ q136 => ?_);clear q135
        refine vl (true && (false == true)) (.bool false) (want_g rfl rfl (q136.a 63 rfl)) (fun hc => absurd hc (by decide)) rfl q136.z (by decide) (q136.k fun _ q137 => ?_);clear q136
        refine vl (true && (false == true)) (.bool false) (want_g rfl rfl (q137.a 63 rfl)) (fun hc => absurd hc (by decide)) rfl q137.z (by decide) (q137.k fun _ q138 => ?_);clear q137
        refine vl (true && (false == true)) (.bool false) (want_g rfl rfl (q138.a 63 rfl)) (fun hc => absurd hc (by decide)) rfl q138.z (by decide) (q138.k fun _ q139 => ?_);clear q138
        refine vl ((true && (false == true)) && (false == false)) (.bool false) (want_g rfl rfl (q139.a 69 rfl)) (fun hc => absurd hc (by decide)) rfl q139.z (by decide) (q139.k fun _ q140 => ?_);clear q139
        refine vl ((true && (false == true)) && (false == false)) (.bool false) (want_g rfl rfl (q140.a 69 rfl)) (fun hc => absurd hc (by decide)) rfl q140.z (by decide) (q140.k fun _ q141 => ?_);clear q140
        refine vl ((true && (false == true)) && (false == false)) (.bool false) (want_g rfl rfl (q141.a 69 rfl)) (fun hc => absurd hc (by decide)) rfl q141.z (by decide) (q141.k fun _ q142 => ?_);clear q141
        refine vl ((true && (false == true)) && (false == false)) (.bool false) (want_g rfl rfl (q142.a 69 rfl)) (fun hc => absurd hc (by decide)) rfl q142.z (by decide) (q142.k fun _ q143 => ?_);clear q142
        refine vl ((true && (false == true)) && (false == false)) (.bool false) (want_g rfl rfl (q143.a 69 rfl)) (fun hc => absurd hc (by decide)) rfl q143.z (by decide) (q143.k fun _ q144 => ?_);clear q143
        refine vl (true && (false == true)) (.bool false) (want_g rfl rfl (q144.a 63 rfl)) (fun hc => absurd hc (by decide)) rfl q144.z (by decide) (q144.k fun _ q145 => ?_);clear q144
        refine q145.t (.bool false) (ex_and (z := false) rfl (q145.a 63 rfl) (q145.a 75 rfl) rfl) fun _ q146 => ?_;clear q145
        have q147 := ((((((((Rp.nil q146.z).cons (q146.a 1 rfl)).cons (q146.a 2 rfl)).cons (q146.a 7 rfl)).cons (q146.a 8 rfl)).cons (q146.a 9 rfl)).cons (q146.a 10 rfl)).cons (q146.a 76 rfl))
        clear q146
        refine wpList_nil ?_
        go_upto_region 12 with fail
        refine wp_cond_false (q147.e (j := 76) rfl) ?_
        go_upto_region 12 with fail
        refine wp_region_lit ?_
        refine q147.t (.int .i64 ((j : Nat) : Int)) (ex_move rfl (q147.e (j := 10) rfl)) fun _ q148 => ?_;clear q147
        refine q148.t (.int .i64 ((j + 1 : Nat) : Int)) (ex_bin rfl (q148.e (j := 36) rfl) rfl (add1C _ _ j (by omega) _)) fun _ q149 => ?_;clear q148
        refine q149.t (.int .i64 ((j + 1 : Nat) : Int)) (ex_assign rfl (q149.e (j := 37) rfl)) fun _ q150 => ?_;clear q149
        have q151 := (((((((Rp.nil q150.z).cons (q150.a 1 rfl)).cons (q150.a 2 rfl)).cons (q150.a 7 rfl)).cons (q150.a 8 rfl)).cons (q150.a 9 rfl)).cons (q150.a 10 rfl))
        clear q150
        refine wpList_nil ?_
        exact ⟨_, rfl, hit, v3, _, _, _, _, q151, P3⟩
    · refine q121.t (.bool false) (ex_bin (Y := .int .i64 0) rfl (q121.e (j := 52) rfl) rfl (by rw [gtrC, decide_eq_false (by omega)])) fun _ q122 => ?_;clear q121
      refine q122.t (.bool false) (ex_move rfl (q122.e (j := 53) rfl)) fun _ q123 => ?_;clear q122
      refine vl (true && (false == true)) (.bool false) (want_g rfl rfl (q123.a 54 rfl)) (fun hc => absurd hc (by decide)) rfl q123.z (by decide) (q123.k fun _ q124 => ?_);clear q123
      refine vl (true && (false == true)) (.bool false) (want_g rfl rfl (q124.a 54 rfl)) (fun hc => absurd hc (by decide)) rfl q124.z (by decide) (q124.k fun _ q125 => ?_);clear q124
      refine vl (true && (false == true)) (.bool false) (want_g rfl rfl (q125.a 54 rfl)) (fun hc => absurd hc (by decide)) rfl q125.z (by decide) (q125.k fun _ q126 => ?_);clear q125
      refine vl (true && (false == true)) (.bool false) (want_g rfl rfl (q126.a 54 rfl)) (fun hc => absurd hc (by decide)) rfl q126.z (by decide) (q126.k fun _ q127 => ?_);clear q126
      refine vl (true && (false == true)) (.bool false) (want_g rfl rfl (q127.a 54 rfl)) (fun hc => absurd hc (by decide)) rfl q127.z (by decide) (q127.k fun _ q128 => ?_);clear q127
      refine vl (true && (false == true)) (.bool false) (want_g rfl rfl (q128.a 54 rfl)) (fun hc => absurd hc (by decide)) rfl q128.z (by decide) (q128.k fun _ q129 => ?_);clear q128
      refine vl (true && (false == true)) (.bool false) (want_g rfl rfl (q129.a 54 rfl)) (fun hc => absurd hc (by decide)) rfl q129.z (by decide) (q129.k fun _ q130 => ?_);clear q129
      refine q130.t (.bool false) (ex_and (z := false) rfl (q130.a 54 rfl) (q130.a 61 rfl) rfl) fun _ q131 => ?_;clear q130
      refine q131.t (.bool false) (ex_move rfl (q131.e (j := 62) rfl)) fun _ q132 => ?_;clear q131
      have q133 := ((((((((Rp.nil q132.z).cons (q132.a 1 rfl)).cons (q132.a 2 rfl)).cons (q132.a 7 rfl)).cons (q132.a 8 rfl)).cons (q132.a 9 rfl)).cons (q132.a 10 rfl)).cons (q132.a 63 rfl))
      clear q132
      refine vl (true && (false == true)) (.bool false) (want_g rfl rfl (q133.a 63 rfl)) (fun hc => absurd hc (by decide)) rfl q133.z (by decide) (q133.k fun _ q134 => ?_);clear q133
      refine vl (true && (false == true)) (.bool false) (want_g rfl rfl (q134.a 63 rfl)) (fun hc => absurd hc (by decide)) rfl q134.z (by decide) (q134.k fun _ q135 => ?_);clear q134
      refine vl (true && (false == true)) (.bool false) (want_g rfl rfl (q135.a 63 rfl)) (fun hc => absurd hc (by decide)) rfl q135.z (by decide) (q135.k fun _ q136 => ?_);clear q135
      refine vl (true && (false == true)) (.bool false) (want_g rfl rfl (q136.a 63 rfl)) (fun hc => absurd hc (by decide)) rfl q136.z (by decide) (q136.k fun _ q137 => ?_);clear q136
      refine vl (true && (false == true)) (.bool false) (want_g rfl rfl (q137.a 63 rfl)) (fun hc => absurd hc (by decide)) rfl q137.z (by decide) (q137.k fun _ q138 => ?_);clear q137
      refine vl (true && (false == true)) (.bool false) (want_g rfl rfl (q138.a 63 rfl)) (fun hc => absurd hc (by decide)) rfl q138.z (by decide) (q138.k fun _ q139 => ?_);clear q138
      refine vl ((true && (false == true)) && (false == false)) (.bool false) (want_g rfl rfl (q139.a 69 rfl)) (fun hc => absurd hc (by decide)) rfl q139.z (by decide) (q139.k fun _ q140 => ?_);clear q139
      refine vl ((true && (false == true)) && (false == false)) (.bool false) (want_g rfl rfl (q140.a 69 rfl)) (fun hc => absurd hc (by decide)) rfl q140.z (by decide) (q140.k fun _ q141 => ?_);clear q140
      refine vl ((true && (false == true)) && (false == false)) (.bool false) (want_g rfl rfl (q141.a 69 rfl)) (fun hc => absurd hc (by decide)) rfl q141.z (by decide) (q141.k fun _ q142 => ?_);clear q141
      refine vl ((true && (false == true)) && (false == false)) (.bool false) (want_g rfl rfl (q142.a 69 rfl)) (fun hc => absurd hc (by decide)) rfl q142.z (by decide) (q142.k fun _ q143 => ?_);clear q142
      refine vl ((true && (false == true)) && (false == false)) (.bool false) (want_g rfl rfl (q143.a 69 rfl)) (fun hc => absurd hc (by decide)) rfl q143.z (by decide) (q143.k fun _ q144 => ?_);clear q143
      refine vl (true && (false == true)) (.bool false) (want_g rfl rfl (q144.a 63 rfl)) (fun hc => absurd hc (by decide)) rfl q144.z (by decide) (q144.k fun _ q145 => ?_);clear q144
      refine q145.t (.bool false) (ex_and (z := false) rfl (q145.a 63 rfl) (q145.a 75 rfl) rfl) fun _ q146 => ?_;clear q145
      have q147 := ((((((((Rp.nil q146.z).cons (q146.a 1 rfl)).cons (q146.a 2 rfl)).cons (q146.a 7 rfl)).cons (q146.a 8 rfl)).cons (q146.a 9 rfl)).cons (q146.a 10 rfl)).cons (q146.a 76 rfl))
      clear q146
      refine wpList_nil ?_
      go_upto_region 12 with fail
      refine wp_cond_false (q147.e (j := 76) rfl) ?_
      go_upto_region 12 with fail
      refine wp_region_lit ?_
      refine q147.t (.int .i64 ((j : Nat) : Int)) (ex_move rfl (q147.e (j := 10) rfl)) fun _ q148 => ?_;clear q147
      refine q148.t (.int .i64 ((j + 1 : Nat) : Int)) (ex_bin rfl (q148.e (j := 36) rfl) rfl (add1C _ _ j (by omega) _)) fun _ q149 => ?_;clear q148
      refine q149.t (.int .i64 ((j + 1 : Nat) : Int)) (ex_assign rfl (q149.e (j := 37) rfl)) fun _ q150 => ?_;clear q149
      have q151 := (((((((Rp.nil q150.z).cons (q150.a 1 rfl)).cons (q150.a 2 rfl)).cons (q150.a 7 rfl)).cons (q150.a 8 rfl)).cons (q150.a 9 rfl)).cons (q150.a 10 rfl))
      clear q150
      refine wpList_nil ?_
      exact ⟨_, rfl, hit, v3, _, _, _, _, q151, P3⟩
  · obtain rfl : j = l.length := by omega
    go_upto_region 11 with fail
    refine wp_region_lit ?_
    refine q100.t (.int .i64 ((l.length : Nat) : Int)) (ex_move rfl (q100.e (j := 10) rfl)) fun _ q101 => ?_;clear q100
    refine q101.t (.slice a1 l.length c1) (ex_move rfl (q101.e (j := 1) rfl)) fun _ q102 => ?_;clear q101
    refine q102.t (.int .i64 ((l.length : Nat) : Int)) (ex_lenG rfl rfl Try.underlying23 (q102.e (j := 33) rfl)) fun _ q103 => ?_;clear q102
    refine q103.t (.bool false) (ex_bin rfl (q103.e (j := 32) rfl) (q103.e (j := 34) rfl) (ltF _ _ hit _)) fun _ q104 => ?_;clear q103
    refine wpList_nil ?_
    go_upto_region 17 with fail
    refine wp_cond_false (q104.e (j := 35) rfl) ?_
    have hfl : flB (l.take l.length) = flB l := by rw [List.take_length]
    obtain ⟨a9, c9, hv9, s9, _⟩ := PJ.ov.sl kB9
    have I0 := PJ.hi
    rw [hfl] at hv9 s9 I0
    have hsl : (sumF (flB l)).length = 32 := out_len _
    have eqT : ∀ (x y : Operand) (W : World), (do eqGuard .eql 32 x y (.agg ((sumF (flB l)).map bV).toArray) (.agg ((sumF (flB l)).map bV).toArray); binOp .eql 32 (.agg ((sumF (flB l)).map bV).toArray) (.agg ((sumF (flB l)).map bV).toArray) : Sem Value).run Try.prog W = .ok (.bool true) W := fun x y W => by rw [eqlH _ _ hsl hsl, decide_eq_true rfl]
    go_upto_region 17 with fail
    refine wp_region_lit ?_
    refine q104.t (.pointer (some ⟨q, 0, none⟩)) (ex_move rfl (q104.e (j := 7) rfl)) fun _ q105 => ?_;clear q104
    refine vcallP (want_none rfl) (ex_call rfl (by simp only [List.map_toArray, List.map_cons, List.map_nil, (q105.e (j := 77) rfl), evc] <;> rfl) rfl) (hsum19 q (flB l) wr I0 (by omega)) rfl q105.z (by decide) ?_
    rintro e r1 ⟨rfl, e1⟩
    refine ⟨_, rfl, q105.k fun _ q106 => ?_⟩;clear q105
    have P1 := PJ.later e1
    have I1 := I0.later e1
    have s9 := s9.on e1 (Nat.le_refl _)
    refine q106.t (.slice a9 (flB l).length c9) (ex_move rfl ((q106.e (j := 8) rfl).trans hv9)) fun _ q107 => ?_;clear q106
    refine vcallP (want_none rfl) (ex_call rfl (by simp only [List.map_toArray, List.map_cons, List.map_nil, (q107.e (j := 79) rfl), evc] <;> rfl) rfl) (sum19 (flB l) a9 c9 r1 s9 (by omega)) rfl q107.z (by decide) ?_
    rintro e r2 ⟨rfl, e2⟩
    refine ⟨_, rfl, q107.k fun _ q108 => ?_⟩;clear q107
    have P2 := P1.later e2
    have I2 := I1.later e2
    refine q108.t (.bool true) (ex_bin rfl (q108.e (j := 78) rfl) (q108.e (j := 80) rfl) (eqT _ _ _)) fun _ q109 => ?_;clear q108
    refine q109.t (.bool true) (ex_move rfl (q109.e (j := 81) rfl)) fun _ q110 => ?_;clear q109
    refine vl (true && (true == true)) (.pointer (some ⟨q, 0, none⟩)) (want_g rfl rfl (q110.a 82 rfl)) (fun hc => ex_move rfl (q110.e (j := 7) rfl)) rfl q110.z (by decide) (q110.k fun _ q111 => ?_);clear q110
    refine vcallP (show Region.wanted _ _ = (true && (true == true)) from want_g rfl rfl (q111.a 82 rfl)) (ex_call rfl (by simp only [List.map_toArray, List.map_cons, List.map_nil, (q111.e (j := 83) rfl), evc] <;> rfl) rfl) (hsum19 q (flB l) r2 I2 (by omega)) rfl q111.z (by decide) ?_
    rintro e r3 ⟨rfl, e3⟩
    refine ⟨_, rfl, q111.k fun _ q112 => ?_⟩;clear q111
    have P3 := P2.later e3
    have I3 := I2.later e3
    have be3 := P3.be
    refine vl (true && (true == true)) (.slice a1 l.length c1) (want_g rfl rfl (q112.a 82 rfl)) (fun hc => ex_move rfl (q112.e (j := 1) rfl)) rfl q112.z (by decide) (q112.k fun _ q113 => ?_);clear q112
    refine vcallP (show Region.wanted _ _ = (true && (true == true)) from want_g rfl rfl (q113.a 82 rfl)) (ex_call rfl (by simp only [List.map_toArray, List.map_cons, List.map_nil, (q113.e (j := 85) rfl), evc] <;> rfl) rfl) (join19 l a1 c1 r3 (h1.on be3 (Nat.le_refl _)) (fun x hx => (hp x hx).on be3 (Nat.le_refl _)) (by omega) (by omega)) rfl q113.z (by decide) ?_
    rintro e r4 ⟨rfl, e4⟩
    refine ⟨_, rfl, q113.k fun _ q114 => ?_⟩;clear q113
    have P4 := P3.later e4
    have I4 := I3.later e4
    refine vl (true && (true == true)) (.bool true) (want_g rfl rfl (q114.a 82 rfl)) (fun hc => ex_bin rfl (q114.e (j := 84) rfl) (q114.e (j := 86) rfl) (eqT _ _ _)) rfl q114.z (by decide) (q114.k fun _ q115 => ?_);clear q114
    refine q115.t (.bool true) (ex_and (z := true) rfl (q115.a 82 rfl) (q115.a 87 rfl) rfl) fun _ q116 => ?_;clear q115
    refine q116.t (.bool true) (ex_move rfl (q116.e (j := 88) rfl)) fun _ q117 => ?_;clear q116
    refine vl (true && (true == true)) (.pointer (some ⟨q, 0, none⟩)) (want_g rfl rfl (q117.a 89 rfl)) (fun hc => ex_move rfl (q117.e (j := 7) rfl)) rfl q117.z (by decide) (q117.k fun _ q118 => ?_);clear q117
    refine vcallP (show Region.wanted _ _ = (true && (true == true)) from want_g rfl rfl (q118.a 89 rfl)) (ex_call rfl (by simp only [List.map_toArray, List.map_cons, List.map_nil, (q118.e (j := 90) rfl), evc] <;> rfl) rfl) (len19 q (flB l) r4 I4) rfl q118.z (by decide) ?_
    rintro e r5 ⟨rfl, rfl⟩
    refine ⟨_, rfl, q118.k fun _ q119 => ?_⟩;clear q118
    refine vl (true && (true == true)) (.slice a9 (flB l).length c9) (want_g rfl rfl (q119.a 89 rfl)) (fun hc => ex_move rfl ((q119.e (j := 8) rfl).trans hv9)) rfl q119.z (by decide) (q119.k fun _ q120 => ?_);clear q119
    refine vl (true && (true == true)) (.int .i64 (((flB l).length : Nat) : Int)) (want_g rfl rfl (q120.a 89 rfl)) (fun hc => ex_lenG rfl rfl Try.underlying22 (q120.e (j := 92) rfl)) rfl q120.z (by decide) (q120.k fun _ q121 => ?_);clear q120
    refine vl (true && (true == true)) (.bool true) (want_g rfl rfl (q121.a 89 rfl)) (fun hc => ex_bin rfl (q121.e (j := 91) rfl) (q121.e (j := 93) rfl) (by rw [eqlC, decide_eq_true rfl])) rfl q121.z (by decide) (q121.k fun _ q122 => ?_);clear q121
    refine q122.t (.bool true) (ex_and (z := true) rfl (q122.a 89 rfl) (q122.a 94 rfl) rfl) fun _ q123 => ?_;clear q122
    refine q123.t (.bool true) (ex_move rfl (q123.e (j := 95) rfl)) fun _ q124 => ?_;clear q123
    refine vcallP (show Region.wanted _ _ = (true && (true == true)) from want_g rfl rfl (q124.a 96 rfl)) (ex_call rfl (by simp only [List.map_toArray, List.map_cons, List.map_nil, (q124.e (j := 9) rfl), evc] <;> rfl) rfl) (intactB19 b (b + 1) va vb La Lb r5 P4.gy P4.md P4.ne (by have := P4.la; omega)) rfl q124.z (by decide) ?_
    rintro e r6 ⟨rfl, e6⟩
    refine ⟨_, rfl, q124.k fun _ q125 => ?_⟩;clear q124
    have P6 := P4.later e6
    refine q125.t (.bool true) (ex_and (z := true) rfl (q125.a 96 rfl) (q125.a 97 rfl) rfl) fun _ q126 => ?_;clear q125
    refine q126.t (.bool true) (ex_assign rfl (q126.e (j := 98) rfl)) fun _ q127 => ?_;clear q126
    refine wpList_nil ?_
    go_wp2
    refine bodyPost_ret (results_tmp rfl _ _ _) rfl ⟨?_, P6.be⟩
    rw [getD_of (q127.a 6 rfl)]
    rfl

end Go.Proofs.Ytjodieiaccfkiaa
