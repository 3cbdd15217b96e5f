import Derived.Test.YtjodieiaccfkiaaS24
namespace Go.Proofs.Ytjodieiaccfkiaa
open Go.RowKit Go.Maps
open Classical
set_option linter.unusedVariables false
set_option linter.unusedSimpArgs false

def cut9 (x : SV Int) : SV Int := ⟨x.a, x.c, x.D.dropLast⟩
theorem flB_eq {l m : List (SV Int)} (h : l.map (·.D) = m.map (·.D)) : flB l = flB m := by
  unfold flB
  rw [List.flatMap_def, List.flatMap_def, h]
structure SI9 (w : World) (l : List (SV Int)) (b j : Nat) (v va vb : Value) (La Lb : List (SV Int)) (wr : World) : Prop where
  wb : w.heap.size ≤ b
  ov : OwnY zB9 (b + 1) wr v (La.map cut9)
  gy : GY yBy zByB 0 (fun _ => .slice none 0 0) wr b (b + 1) va vb La Lb
  ds : (La.map cut9).map (·.D) = (l.take j).map (·.D)
  la : La.length = j
  md : La.map (·.D) = Lb.map (·.D)
  ne : ∀ x ∈ La, x.D ≠ []
  pa : ∀ k, va.ownBlock = some k → v.ownBlock ≠ some k
  pb : ∀ k, vb.ownBlock = some k → v.ownBlock ≠ some k
  be : Below w.heap.size w wr
theorem SI9.own {w wr r1 : World} {l : List (SV Int)} {b j : Nat} {v va vb : Value} {La Lb : List (SV Int)} (h : SI9 w l b j v va vb La Lb wr) (u1 : Upd (fun k => k = b ∨ va.ownBlock = some k ∨ vb.ownBlock = some k) wr r1) : OwnY zB9 (b + 1) r1 v (La.map cut9) ∧ Below w.heap.size w r1 := by
  have hwb := h.wb
  have hs := h.be.size
  have hbs : b < wr.heap.size := Nat.lt_of_lt_of_le h.gy.lt h.gy.ltB
  refine ⟨h.ov.upd1 u1 (fun k hk => ?_), h.be.trans (u1.below hs (fun k hk => ?_))⟩
  · have hk1 := (h.ov.blk k hk).1
    rintro (e | e | e)
    · omega
    · exact h.pa k e hk
    · exact h.pb k e hk
  · rcases hk with e | e | e
    · omega
    · have := (h.gy.oa.blk k e).1; omega
    · have := (h.gy.ob.blk k e).1; omega
theorem SI9.put {w wr r1 r2 r3 : World} {l : List (SV Int)} {b j : Nat} {v va vb va' vb' v3 : Value} {La Lb : List (SV Int)} {x : SV Int} {g c' g5 k5 : Nat} (h : SI9 w l b j v va vb La Lb wr) (hx : l[j]? = some x) (G1 : GY yBy zByB 0 (fun _ => .slice none 0 0) r1 b (b + 1) va' vb' (La ++ [⟨some ⟨g, 0, none⟩, c', x.D ++ [90]⟩]) (Lb ++ [⟨some ⟨g5, 0, none⟩, k5, x.D ++ [90]⟩])) (u1 : Upd (fun k => k = b ∨ va.ownBlock = some k ∨ vb.ownBlock = some k) wr r1)
    (ha : va'.ownBlock = va.ownBlock ∨ ∃ k, va'.ownBlock = some k ∧ wr.heap.size ≤ k) (hb : vb'.ownBlock = vb.ownBlock ∨ ∃ k, vb'.ownBlock = some k ∧ wr.heap.size ≤ k) (b2 : Below r1.heap.size r1 r2) (o2 : OwnY zB9 (b + 1) r2 v (La.map cut9)) (o3 : OwnY zB9 (b + 1) r3 v3 (La.map cut9 ++ [⟨some ⟨g, 0, none⟩, c', x.D⟩])) (g3 : r2.grownBy r3 v.ownBlock) (n3 : v3.ownBlock = v.ownBlock ∨ ∃ k, v3.ownBlock = some k ∧ r2.heap.size ≤ k) :
    SI9 w l b (j + 1) v3 va' vb' (La ++ [⟨some ⟨g, 0, none⟩, c', x.D ++ [90]⟩]) (Lb ++ [⟨some ⟨g5, 0, none⟩, k5, x.D ++ [90]⟩]) r3 := by
  have hwb := h.wb
  have G2 := G1.bel b2
  have b1 := (h.own u1).2
  have uA := updG g3
  have hap : ∀ k, va'.ownBlock = some k → v.ownBlock ≠ some k := fun k hk e => by
    rcases ha with e1 | ⟨k1, e1, h1⟩
    · exact h.pa k (e1 ▸ hk) e
    · rw [e1] at hk
      have := Option.some.inj hk
      have := (h.ov.blk k e).2
      omega
  have hbp : ∀ k, vb'.ownBlock = some k → v.ownBlock ≠ some k := fun k hk e => by
    rcases hb with e1 | ⟨k1, e1, h1⟩
    · exact h.pb k (e1 ▸ hk) e
    · rw [e1] at hk
      have := Option.some.inj hk
      have := (h.ov.blk k e).2
      omega
  have G3 := G2.updS uA (fun e => by have := (o2.blk b e).1; omega) (fun k hk e => hap k hk e) (fun k hk e => hbp k hk e) (fun y hy k hk e => OwnY.apart o2 (G2.da y hy) (by decide) k e hk) (fun y hy k hk e => OwnY.apart o2 (G2.db y hy) (by decide) k e hk)
  have br2 : Below w.heap.size w r2 := b1.trans (b2.mono b1.size)
  refine ⟨hwb, ?_, G3, ?_, by rw [List.length_append, h.la]; rfl, by rw [List.map_append, List.map_append, h.md]; rfl, fun y hy => (List.mem_append.1 hy).elim (h.ne y) (fun h => by obtain rfl := List.mem_singleton.1 h; simp), fun k hk => ?_, fun k hk => ?_, br2.grown g3 br2.size (fun k hk => by have := (o2.blk k hk).1; omega)⟩
  · rw [List.map_append, List.map_cons, List.map_nil, cut9, List.dropLast_concat]
    exact o3
  · obtain ⟨hj, rfl⟩ := List.getElem?_eq_some_iff.1 hx
    rw [List.map_append, List.map_append, h.ds, List.take_succ_eq_append_getElem hj, List.map_append, List.map_cons, List.map_nil, List.map_cons, List.map_nil, cut9, List.dropLast_concat]
    rfl
  · rcases n3 with e | ⟨k2, e, hk2⟩
    · rw [e]; exact hap k hk
    · rw [e]; intro e2; have := Option.some.inj e2; have := (G2.oa.blk k hk).2; omega
  · rcases n3 with e | ⟨k2, e, hk2⟩
    · rw [e]; exact hbp k hk
    · rw [e]; intro e2; have := Option.some.inj e2; have := (G2.ob.blk k hk).2; omega
theorem cuts9 {w : World} {b B : Nat} {va vb : Value} {La Lb : List (SV Int)} (G : GY yBy zByB 0 (fun _ => .slice none 0 0) w b B va vb La Lb) : ∀ y ∈ La.map cut9, (∀ x ∈ La, x ∈ La) → SlY yB9 w y.a y.D.length y.c y.D := fun y hy _ => by
  obtain ⟨x, hx, rfl⟩ := List.mem_map.1 hy
  have h := (G.xs hx).take (x.D.length - 1) (by omega)
  rw [← List.dropLast_eq_take] at h
  show SlY yB9 w x.a x.D.dropLast.length x.c x.D.dropLast
  rw [List.length_dropLast]
  exact h
theorem u8_wf9 {z : Int} (h : (Lit.int .u8 z).wf = true) : 0 ≤ z ∧ z < 256 := by
  simp [Lit.wf, IntKind.min, IntKind.max, IntKind.bits, IntKind.signed] at h
  omega
set_option maxRecDepth 100000 in
theorem up_bytes2 {H : Type} {enc : TypeId × Value → H} {W : World} {fuel : Nat} {cs : List Value} {x : DataW H × List MemPlace} (h : DataW.trod enc Try.prog W 0 (fun _ => true) true fuel 22 cs = some x) :
    ∃ (a : Option Addr) (n c : Nat) (P : List Int), cs = [.slice a n c] ∧ SlY yB9 W a n c P ∧ (∀ y ∈ P, (0 : Int) ≤ y ∧ y < 256) ∧ P.length + 1 ≤ Rows.uptoBulk x.1 := by
  obtain ⟨a, n, c, P, h1, h2, h3, h4⟩ := open_up kB9 (fun y => (0 : Int) ≤ y ∧ y < 256) (fun _ => 1) (by kernel_rfl) (fun {n cs x} h => by
    obtain ⟨K, hK, hx, hr⟩ := DataW.trod_int Try.underlying5 h
    exact ⟨K, u8_wf9 hr, hK, by rw [hx]; simp [Rows.uptoBulk]⟩) h
  rw [sum_one] at h4
  exact ⟨a, n, c, P, h1, h2, h3, h4⟩
set_option maxRecDepth 100000 in
theorem up_parts2 {H : Type} {enc : TypeId × Value → H} {W : World} {fuel : Nat} {cs : List Value} {x : DataW H × List MemPlace} (h : DataW.trod enc Try.prog W 0 (fun _ => true) true fuel 23 cs = some x) :
    ∃ (a : Option Addr) (n c : Nat) (P : List (SV Int)), cs = [.slice a n c] ∧ SlY zB9 W a n c P ∧ (∀ q ∈ P, SlY yB9 W q.a q.D.length q.c q.D ∧ ∀ y ∈ q.D, (0 : Int) ≤ y ∧ y < 256) ∧ (P.map (fun q => q.D.length + 1)).sum + 1 ≤ Rows.uptoBulk x.1 := by
  haveI : Inhabited (SV Int) := ⟨⟨none, 0, []⟩⟩
  exact open_up kzB9 (fun q => SlY yB9 W q.a q.D.length q.c q.D ∧ ∀ y ∈ q.D, (0 : Int) ≤ y ∧ y < 256) (fun q => q.D.length + 1) (by kernel_rfl) (fun {n cs x} h => by
    obtain ⟨a, n, c, P, h1, h2, h3, h4⟩ := up_bytes2 h
    have hl := h2.len
    subst hl
    exact ⟨⟨a, c, P⟩, ⟨h2, h3⟩, h1, h4⟩) h
set_option maxRecDepth 100000 in
set_option maxHeartbeats 2000000 in
theorem sums19 (D0 : List Int) (a0 : Option Addr) (c0 : Nat) (l : List (SV Int)) (a1 : Option Addr) (c1 : Nat) (w : World) (h0 : SlY yB9 w a0 D0.length c0 D0) (hb0 : ∀ y ∈ D0, (0 : Int) ≤ y ∧ y < 256) (h1 : SlY zB9 w a1 l.length c1 l) (hp : ∀ x ∈ l, SlY yB9 w x.a x.D.length x.c x.D ∧ ∀ y ∈ x.D, (0 : Int) ≤ y ∧ y < 256) (m0 : D0.length ≤ 1048576) (m1 : (flB l).length ≤ 1048576) (m2 : l.length ≤ 1048576) :
    Calls Try.prog 3 #[.slice a0 D0.length c0, .slice a1 l.length c1] w fun e w' => e = .returned (.bool true) ∧ Below w.heap.size w w' := by
  go_enter Try.func3, Try.ntmps3
  go_upto_region 0 with fail
  refine wp_region_lit ?_
  refine vl_gen (fun T => Rp T 41 [(1, gw true (.slice a1 l.length c1)), (0, gw true (.slice a0 D0.length c0))]) (((Rp.nil rfl).cons rfl).cons rfl) (fun Z0 q0 => ?_)
  refine q0.t (.bool false) (ex_assign rfl rfl) fun _ q1 => ?_;clear q0
  refine wpList_nil ?_
  go_upto_region 1 with fail
  refine wp_region_lit ?_
  obtain ⟨w8, hw8⟩ : ∃ y, y = w.alloc (.cells #[.slice none 0 0, .slice none 0 0, .slice none 0 0, .slice none 0 0, .slice none 0 0, .slice none 0 0, .slice none 0 0, .slice none 0 0, .slice none 0 0, .slice none 0 0] 29) := ⟨_, rfl⟩
  refine vw (.pointer (some ⟨w.heap.size, 0, none⟩)) w8 (want_none rfl) (ex_al rfl (by rw [hw8]; exact alGv _)) rfl q1.z (by decide) (q1.k fun _ q2 => ?_);clear q1
  have G8 : GY yBy zByB 0 (fun _ => .slice none 0 0) w8 w.heap.size (w.heap.size + 1) (.slice none 0 0) (.slice none 0 0) [] [] := by rw [hw8]; exact GY.new yBy zByB 0 (by decide) w _
  have b8 : Below w.heap.size w w8 := by rw [hw8]; exact (Below.refl _ _).alloc (Nat.le_refl _) _
  clear hw8
  have P0 : SI9 w l w.heap.size 0 (.slice none 0 0) (.slice none 0 0) (.slice none 0 0) [] [] w8 := ⟨Nat.le_refl _, OwnY.nil _ _ _, G8, rfl, rfl, rfl, (fun x hx => by cases hx), (fun k hk => by cases hk), (fun k hk => by cases hk), b8⟩
  clear G8 b8
  refine wpList_nil ?_
  go_upto_region 2 with fail
  refine wp_region_lit ?_
  refine q2.t (.slice none 0 0) (ex_assign rfl rfl) fun _ q3 => ?_;clear q2
  refine wpList_nil ?_
  go_upto_region 3 with fail
  refine wp_region_lit ?_
  refine q3.t (.int .i64 ((0 : Nat) : Int)) (ex_assign rfl rfl) fun _ q4 => ?_;clear q3
  have q5 := ((((((Rp.nil q4.z).cons (q4.a 0 rfl)).cons (q4.a 1 rfl)).cons (q4.a 5 rfl)).cons (q4.a 6 rfl)).cons (q4.a 7 rfl))
  clear q4
  refine wpList_nil ?_
  go_upto_region 4 with fail
  refine v_loop 7 l.length (fun j T wr => ∃ v va vb La Lb, Rp T 41 [(7, gw true (.int .i64 ((j : Nat) : Int))), (6, gw true v), (5, gw true (.pointer (some ⟨w.heap.size, 0, none⟩))), (1, gw true (.slice a1 l.length c1)), (0, gw true (.slice a0 D0.length c0))] ∧ Hid (SI9 w l w.heap.size j v va vb La Lb wr)) (fun j T w h => by obtain ⟨v, va, vb, La, Lb, h, _⟩ := h; exact h.a 7 rfl) ⟨_, _, _, _, _, q5, P0⟩ ?_
  clear q5 P0
  intro j T wr hj hh
  obtain ⟨v, va, vb, La, Lb, q100, HJ⟩ := hh
  have PJ := HJ.out
  clear HJ
  have br := PJ.be
  have zr := br.size
  by_cases hit : j < l.length
  · obtain ⟨x, hx⟩ : ∃ x, l[j]? = some x := ⟨_, List.getElem?_eq_getElem hit⟩
    have hua := flB_at hx
    have hle := flB_le l (j + 1)
    rw [hua, List.length_append] at hle
    have hxs := (hp x (List.mem_of_getElem? hx)).1
    obtain ⟨qa, oa, hqa, hqal, hlie⟩ := h1.place (by rintro rfl; simp at hit)
    have hcx : wr.cell? ⟨qa, oa + j, none⟩ = some (.slice x.a x.D.length x.c) := by
      have := (br.cell (p := ⟨qa, oa + j * zB9.k + 0, none⟩) hqal).trans (hlie j x hx 0 _ rfl)
      simpa [zB9, yS] using this
    go_upto_region 4 with fail
    refine wp_region_lit ?_
    refine q100.t (.int .i64 ((j : Nat) : Int)) (ex_move rfl (q100.e (j := 7) rfl)) fun _ q101 => ?_;clear q100
    refine q101.t (.slice a1 l.length c1) (ex_move rfl (q101.e (j := 1) rfl)) fun _ q102 => ?_;clear q101
    refine q102.t (.int .i64 ((l.length : Nat) : Int)) (ex_lenG rfl rfl Try.underlying23 (q102.e (j := 9) rfl)) fun _ q103 => ?_;clear q102
    refine q103.t (.bool true) (ex_bin rfl (q103.e (j := 8) rfl) (q103.e (j := 10) rfl) (ltT _ _ hit _)) fun _ q104 => ?_;clear q103
    refine wpList_nil ?_
    go_upto_region 6 with fail
    refine wp_cond_true (q104.e (j := 11) rfl) ?_
    go_upto_region 6 with fail
    refine wp_region_lit ?_
    refine q104.t (v) (ex_move rfl (q104.e (j := 6) rfl)) fun _ q105 => ?_;clear q104
    refine q105.t (.slice a1 l.length c1) (ex_move rfl (q105.e (j := 1) rfl)) fun _ q106 => ?_;clear q105
    refine q106.t (.int .i64 ((j : Nat) : Int)) (ex_move rfl (q106.e (j := 7) rfl)) fun _ q107 => ?_;clear q106
    refine q107.t (.pointer (some ⟨qa, (oa + j), none⟩)) (ex_ix rfl (q107.e (j := 15) rfl) (q107.e (j := 16) rfl) (by rw [hqa]; exact ixBB qa oa l.length c1 j hit _)) fun _ q108 => ?_;clear q107
    refine q108.t (.slice x.a x.D.length x.c) (ex_ld rfl (q108.e (j := 17) rfl) (ldBs hcx)) fun _ q109 => ?_;clear q108
    refine vcallP (want_none rfl) (ex_call rfl (by simp only [List.map_toArray, List.map_cons, List.map_nil, (q109.e (j := 5) rfl), (q109.e (j := 18) rfl), evc] <;> rfl) rfl) (given_byG (fun _ => .slice none 0 0) w.heap.size (w.heap.size + 1) va vb La Lb x.a x.D.length x.c x.D wr PJ.gy (hxs.on br (Nat.le_refl _)) (by omega) (by have := PJ.la; omega) (by have := congrArg List.length PJ.md; simpa using this.symm)) rfl q109.z (by decide) ?_
    rintro e r1 ⟨g, c', va', vb', g5, k5, rfl, s1, hg, G1, u1, ha1, hb1, hg5⟩
    refine ⟨_, rfl, q109.k fun _ q110 => ?_⟩;clear q109
    obtain ⟨o1, d1⟩ := PJ.own u1
    have z1 := d1.size
    obtain ⟨r2, hr2⟩ : ∃ y, y = r1.alloc (.cells #[(.slice (some ⟨g, 0, none⟩) x.D.length c')] 22) := ⟨_, rfl⟩
    refine vw (.slice (some ⟨r1.heap.size, 0, none⟩) 1 1) r2 (want_none rfl) (ex_bs18 rfl (q110.e (j := 19) rfl) (by rw [hr2]; exact bsBB _ _ _ _)) rfl q110.z (by decide) (q110.k fun _ q111 => ?_);clear q110
    have s2 : SlY zB9 r2 (some ⟨r1.heap.size, 0, none⟩) 1 1 [(⟨some ⟨g, 0, none⟩, c', x.D⟩ : SV Int)] := by rw [hr2]; exact sl_box (Y := zB9) r1 (⟨some ⟨g, 0, none⟩, c', x.D⟩ : SV Int) 22
    have b2 : Below r1.heap.size r1 r2 := by rw [hr2]; exact (Below.refl _ _).alloc (Nat.le_refl _) _
    clear hr2
    have z2 := b2.size
    have o2 := o1.grow b2
    have hG := G1.ltB
    have hla := PJ.la
    obtain ⟨v3, r3, ha3, o3, g3, n3⟩ := run_appY kzB9 r2 23 (w.heap.size + 1) (La.map cut9) v (some ⟨r1.heap.size, 0, none⟩) 1 1 [(⟨some ⟨g, 0, none⟩, c', x.D⟩ : SV Int)] s2 o2 (by omega) (by rw [List.length_map]; unfold maxLen; omega) (by show ((La.map cut9).length + 1) * 24 ≤ _; rw [List.length_map]; omega)
    have P3 := PJ.put hx G1 u1 ha1 hb1 b2 o2 o3 g3 n3
    clear o1 o2 o3 g3 n3 G1 u1 s1 s2
    refine vw (v3) r3 (want_none rfl) (ex_app18 rfl (q111.e (j := 14) rfl) (q111.e (j := 20) rfl) ha3) rfl q111.z (by decide) (q111.k fun _ q112 => ?_);clear q111
    refine q112.t (v3) (ex_assign rfl (q112.e (j := 21) rfl)) fun _ q113 => ?_;clear q112
    have q114 := ((((((Rp.nil q113.z).cons (q113.a 0 rfl)).cons (q113.a 1 rfl)).cons (q113.a 5 rfl)).cons (q113.a 6 rfl)).cons (q113.a 7 rfl))
    clear q113
    refine wpList_nil ?_
    go_upto_region 5 with fail
    refine wp_region_lit ?_
    refine q114.t (.int .i64 ((j : Nat) : Int)) (ex_move rfl (q114.e (j := 7) rfl)) fun _ q115 => ?_;clear q114
    refine q115.t (.int .i64 ((j + 1 : Nat) : Int)) (ex_bin rfl (q115.e (j := 12) rfl) rfl (add1C _ _ j (by omega) _)) fun _ q116 => ?_;clear q115
    refine q116.t (.int .i64 ((j + 1 : Nat) : Int)) (ex_assign rfl (q116.e (j := 13) rfl)) fun _ q117 => ?_;clear q116
    have q118 := ((((((Rp.nil q117.z).cons (q117.a 0 rfl)).cons (q117.a 1 rfl)).cons (q117.a 5 rfl)).cons (q117.a 6 rfl)).cons (q117.a 7 rfl))
    clear q117
    refine wpList_nil ?_
    exact ⟨_, rfl, hit, v3, _, _, _, _, q118, P3⟩
  · obtain rfl : j = l.length := by omega
    go_upto_region 4 with fail
    refine wp_region_lit ?_
    refine q100.t (.int .i64 ((l.length : Nat) : Int)) (ex_move rfl (q100.e (j := 7) rfl)) fun _ q101 => ?_;clear q100
    refine q101.t (.slice a1 l.length c1) (ex_move rfl (q101.e (j := 1) rfl)) fun _ q102 => ?_;clear q101
    refine q102.t (.int .i64 ((l.length : Nat) : Int)) (ex_lenG rfl rfl Try.underlying23 (q102.e (j := 9) rfl)) fun _ q103 => ?_;clear q102
    refine q103.t (.bool false) (ex_bin rfl (q103.e (j := 8) rfl) (q103.e (j := 10) rfl) (ltF _ _ hit _)) fun _ q104 => ?_;clear q103
    refine wpList_nil ?_
    go_upto_region 7 with fail
    refine wp_cond_false (q104.e (j := 11) rfl) ?_
    have hfl : flB (La.map cut9) = flB l := by rw [flB_eq PJ.ds, List.take_length]
    have hla := PJ.la
    have eqA : ∀ (x y : Operand) (W : World), (do eqGuard .eql 32 x y (.agg ((sumF D0).map bV).toArray) (.agg ((sumF D0).map bV).toArray); binOp .eql 32 (.agg ((sumF D0).map bV).toArray) (.agg ((sumF D0).map bV).toArray) : Sem Value).run Try.prog W = .ok (.bool true) W := fun x y W => by rw [eqlH _ _ (show (sumF D0).length = 32 from out_len _) (show (sumF D0).length = 32 from out_len _), decide_eq_true rfl]
    have eqB : ∀ (x y : Operand) (W : World), (do eqGuard .eql 32 x y (.agg ((sumF (flB l)).map bV).toArray) (.agg ((sumF (flB l)).map bV).toArray); binOp .eql 32 (.agg ((sumF (flB l)).map bV).toArray) (.agg ((sumF (flB l)).map bV).toArray) : Sem Value).run Try.prog W = .ok (.bool true) W := fun x y W => by rw [eqlH _ _ (show (sumF (flB l)).length = 32 from out_len _) (show (sumF (flB l)).length = 32 from out_len _), decide_eq_true rfl]
    go_upto_region 7 with fail
    refine wp_region_lit ?_
    refine q104.t (.slice a0 D0.length c0) (ex_move rfl (q104.e (j := 0) rfl)) fun _ q105 => ?_;clear q104
    refine vcallP (want_none rfl) (ex_call rfl (by simp only [List.map_toArray, List.map_cons, List.map_nil, (q105.e (j := 5) rfl), (q105.e (j := 22) rfl), evc] <;> rfl) rfl) (given_byG (fun _ => .slice none 0 0) w.heap.size (w.heap.size + 1) va vb La Lb a0 D0.length c0 D0 wr PJ.gy (h0.on br (Nat.le_refl _)) (by omega) (by have := PJ.la; omega) (by have := congrArg List.length PJ.md; simpa using this.symm)) rfl q105.z (by decide) ?_
    rintro e r1 ⟨g, c', va', vb', g5, k5, rfl, s1, hg, G1, u1, ha1, hb1, hg5⟩
    refine ⟨_, rfl, q105.k fun _ q106 => ?_⟩;clear q105
    obtain ⟨o1, d1⟩ := PJ.own u1
    have z1 := d1.size
    refine vcallP (want_none rfl) (ex_call rfl (by simp only [List.map_toArray, List.map_cons, List.map_nil, (q106.e (j := 23) rfl), evc] <;> rfl) rfl) (sum19 D0 (some ⟨g, 0, none⟩) c' r1 s1 (by omega)) rfl q106.z (by decide) ?_
    rintro e r2 ⟨rfl, e2⟩
    refine ⟨_, rfl, q106.k fun _ q107 => ?_⟩;clear q106
    have d2 : Below w.heap.size w r2 := d1.trans (e2.mono d1.size)
    have o2 := o1.grow e2
    have G2 := G1.bel e2
    refine q107.t (.slice a0 D0.length c0) (ex_move rfl (q107.e (j := 0) rfl)) fun _ q108 => ?_;clear q107
    refine vcallP (want_none rfl) (ex_call rfl (by simp only [List.map_toArray, List.map_cons, List.map_nil, (q108.e (j := 25) rfl), evc] <;> rfl) rfl) (rsum19 D0 a0 c0 r2 (h0.on d2 (Nat.le_refl _)) (by omega) hb0) rfl q108.z (by decide) ?_
    rintro e r3 ⟨rfl, e3⟩
    refine ⟨_, rfl, q108.k fun _ q109 => ?_⟩;clear q108
    have d3 : Below w.heap.size w r3 := d2.trans (e3.mono d2.size)
    have o3 := o2.grow e3
    have G3 := G2.bel e3
    obtain ⟨a9, c9, hv9, s9, _⟩ := o3.sl kzB9
    refine q109.t (.bool true) (ex_bin rfl (q109.e (j := 24) rfl) (q109.e (j := 26) rfl) (eqA _ _ _)) fun _ q110 => ?_;clear q109
    refine q110.t (.bool true) (ex_move rfl (q110.e (j := 27) rfl)) fun _ q111 => ?_;clear q110
    refine vl (true && (true == true)) (.slice a9 (La.map cut9).length c9) (want_g rfl rfl (q111.a 28 rfl)) (fun hc => ex_move rfl ((q111.e (j := 6) rfl).trans hv9)) rfl q111.z (by decide) (q111.k fun _ q112 => ?_);clear q111
    refine vcallP (show Region.wanted _ _ = (true && (true == true)) from want_g rfl rfl (q112.a 28 rfl)) (ex_call rfl (by simp only [List.map_toArray, List.map_cons, List.map_nil, (q112.e (j := 29) rfl), evc] <;> rfl) rfl) (join19 (La.map cut9) a9 c9 r3 s9 (fun y hy => cuts9 G3 y (by rw [List.map_append]; exact List.mem_append_left _ hy) (fun _ h => h)) (by rw [hfl]; omega) (by rw [List.length_map]; omega)) rfl q112.z (by decide) ?_
    rintro e r4 ⟨rfl, e4⟩
    refine ⟨_, rfl, q112.k fun _ q113 => ?_⟩;clear q112
    have d4 : Below w.heap.size w r4 := d3.trans (e4.mono d3.size)
    have G4 := G3.bel e4
    rw [hfl] at q113
    refine vl (true && (true == true)) (.slice a1 l.length c1) (want_g rfl rfl (q113.a 28 rfl)) (fun hc => ex_move rfl (q113.e (j := 1) rfl)) rfl q113.z (by decide) (q113.k fun _ q114 => ?_);clear q113
    refine vcallP (show Region.wanted _ _ = (true && (true == true)) from want_g rfl rfl (q114.a 28 rfl)) (ex_call rfl (by simp only [List.map_toArray, List.map_cons, List.map_nil, (q114.e (j := 31) rfl), evc] <;> rfl) rfl) (rjoin19 l a1 c1 r4 (h1.on d4 (Nat.le_refl _)) (fun x hx => (hp x hx).1.on d4 (Nat.le_refl _)) (by omega) (by omega) (fun x hx => (hp x hx).2)) rfl q114.z (by decide) ?_
    rintro e r5 ⟨rfl, e5⟩
    refine ⟨_, rfl, q114.k fun _ q115 => ?_⟩;clear q114
    have d5 : Below w.heap.size w r5 := d4.trans (e5.mono d4.size)
    have G5 := G4.bel e5
    refine vl (true && (true == true)) (.bool true) (want_g rfl rfl (q115.a 28 rfl)) (fun hc => ex_bin rfl (q115.e (j := 30) rfl) (q115.e (j := 32) rfl) (eqB _ _ _)) rfl q115.z (by decide) (q115.k fun _ q116 => ?_);clear q115
    refine q116.t (.bool true) (ex_and (z := true) rfl (q116.a 28 rfl) (q116.a 33 rfl) rfl) fun _ q117 => ?_;clear q116
    refine q117.t (.bool true) (ex_move rfl (q117.e (j := 34) rfl)) fun _ q118 => ?_;clear q117
    refine vcallP (show Region.wanted _ _ = (true && (true == true)) from want_g rfl rfl (q118.a 35 rfl)) (ex_call rfl (by simp only [List.map_toArray, List.map_cons, List.map_nil, (q118.e (j := 5) rfl), evc] <;> rfl) rfl) (intactB19 w.heap.size (w.heap.size + 1) va' vb' (La ++ [⟨some ⟨g, 0, none⟩, c', D0 ++ [90]⟩]) (Lb ++ [⟨some ⟨g5, 0, none⟩, k5, D0 ++ [90]⟩]) r5 G5 (by rw [List.map_append, List.map_append, PJ.md]; rfl) (fun y hy => (List.mem_append.1 hy).elim (PJ.ne y) (fun h => by obtain rfl := List.mem_singleton.1 h; simp)) (by rw [List.length_append, hla]; simp; omega)) rfl q118.z (by decide) ?_
    rintro e r6 ⟨rfl, e6⟩
    refine ⟨_, rfl, q118.k fun _ q119 => ?_⟩;clear q118
    have d6 : Below w.heap.size w r6 := d5.trans (e6.mono d5.size)
    refine q119.t (.bool true) (ex_and (z := true) rfl (q119.a 35 rfl) (q119.a 36 rfl) rfl) fun _ q120 => ?_;clear q119
    refine q120.t (.bool true) (ex_move rfl (q120.e (j := 37) rfl)) fun _ q121 => ?_;clear q120
    refine vcallP (show Region.wanted _ _ = (true && (true == true)) from want_g rfl rfl (q121.a 38 rfl)) (ex_call (args := #[]) rfl (by simp) rfl) (alive19 r6) rfl q121.z (by decide) ?_
    rintro e r7 ⟨rfl, e7⟩
    refine ⟨_, rfl, q121.k fun _ q122 => ?_⟩;clear q121
    have d7 : Below w.heap.size w r7 := d6.trans (e7.mono d6.size)
    refine q122.t (.bool true) (ex_and (z := true) rfl (q122.a 38 rfl) (q122.a 39 rfl) rfl) fun _ q123 => ?_;clear q122
    refine q123.t (.bool true) (ex_assign rfl (q123.e (j := 40) rfl)) fun _ q124 => ?_;clear q123
    refine wpList_nil ?_
    go_wp2
    refine bodyPost_ret (results_tmp rfl _ _ _) rfl ⟨?_, d7⟩
    rw [getD_of (q124.a 4 rfl)]
    rfl

end Go.Proofs.Ytjodieiaccfkiaa
