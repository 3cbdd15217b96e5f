import Derived.Test.YtjodieiaccfkiaaS14
import Derived.Test.YtjodieiaccfkiaaAk2
namespace Go.Proofs.Ytjodieiaccfkiaa
open Go.RowKit Go.Maps
open Classical
set_option linter.unusedVariables false
set_option linter.unusedSimpArgs false

theorem faGv (q k : Nat) (hk : k < 10) (w : World) : (Instr.fieldAt 29 (.pointer (some ⟨q, 0, none⟩)) k).run Try.prog w = .ok (.pointer (some ⟨q, k, none⟩)) w := by
  match k, hk with
  | 0, _ => go_simp
  | 1, _ => go_simp
  | 2, _ => go_simp
  | 3, _ => go_simp
  | 4, _ => go_simp
  | 5, _ => go_simp
  | 6, _ => go_simp
  | 7, _ => go_simp
  | 8, _ => go_simp
  | 9, _ => go_simp
theorem ldGb {w : World} {q o : Nat} {a : Option Addr} {n c : Nat} (h : w.cell? ⟨q, o, none⟩ = some (.slice a n c)) : (Instr.loadAt 23 (.pointer (some ⟨q, o, none⟩))).run Try.prog w = .ok (.slice a n c) w := by go_simp
theorem ldGv {w : World} {q o : Nat} {a : Option Addr} {n c : Nat} (h : w.cell? ⟨q, o, none⟩ = some (.slice a n c)) : (Instr.loadAt 24 (.pointer (some ⟨q, o, none⟩))).run Try.prog w = .ok (.slice a n c) w := by go_simp
theorem ldGe {w : World} {q o : Nat} {a : Option Addr} {n c : Nat} (h : w.cell? ⟨q, o, none⟩ = some (.slice a n c)) : (Instr.loadAt 25 (.pointer (some ⟨q, o, none⟩))).run Try.prog w = .ok (.slice a n c) w := by go_simp
theorem ldGi {w : World} {q o : Nat} {a : Option Addr} {n c : Nat} (h : w.cell? ⟨q, o, none⟩ = some (.slice a n c)) : (Instr.loadAt 26 (.pointer (some ⟨q, o, none⟩))).run Try.prog w = .ok (.slice a n c) w := by go_simp
theorem ldGs {w : World} {q o : Nat} {a : Option Addr} {n c : Nat} (h : w.cell? ⟨q, o, none⟩ = some (.slice a n c)) : (Instr.loadAt 27 (.pointer (some ⟨q, o, none⟩))).run Try.prog w = .ok (.slice a n c) w := by go_simp
set_option maxRecDepth 100000 in
set_option maxHeartbeats 2000000 in
theorem sameB19 (L : List Int) (a a2 : Option Addr) (c c2 : Nat) (w : World) (h : SlY yB9 w a L.length c L) (h2 : SlY yB9 w a2 L.length c2 L) (hne : L ≠ []) :
    Calls Try.prog 32 #[.slice a L.length c, .slice a2 L.length c2] w fun e w' => e = .returned (.bool true) ∧ w' = w := by
  go_enter Try.func32, Try.ntmps32
  go_upto_region 0 with fail
  refine wp_region_lit ?_
  refine vl_gen (fun T => Rp T 10 [(1, gw true (.slice a2 L.length c2)), (0, gw true (.slice a L.length c))]) (((Rp.nil rfl).cons rfl).cons rfl) (fun Z0 q0 => ?_)
  refine q0.t (.bool false) (ex_assign rfl rfl) fun _ q1 => ?_;clear q0
  refine wpList_nil ?_
  go_upto_region 1 with fail
  refine wp_region_lit ?_
  refine q1.t (.slice a L.length c) (ex_move rfl (q1.e (j := 0) rfl)) fun _ q2 => ?_;clear q1
  refine q2.t (.string (strOfNums L)) (ex_cv19 rfl (q2.e (j := 5) rfl) (cv_str h hne)) fun _ q3 => ?_;clear q2
  refine q3.t (.slice a2 L.length c2) (ex_move rfl (q3.e (j := 1) rfl)) fun _ q4 => ?_;clear q3
  refine q4.t (.string (strOfNums L)) (ex_cv19 rfl (q4.e (j := 7) rfl) (cv_str h2 hne)) fun _ q5 => ?_;clear q4
  refine q5.t (.bool true) (ex_bin rfl (q5.e (j := 6) rfl) (q5.e (j := 8) rfl) (by rw [eqlS, beq_self_eq_true])) fun _ q6 => ?_;clear q5
  refine q6.t (.bool true) (ex_assign rfl (q6.e (j := 9) rfl)) fun _ q7 => ?_;clear q6
  refine wpList_nil ?_
  go_wp2
  refine bodyPost_ret (results_tmp rfl _ _ _) rfl ⟨?_, rfl⟩
  rw [getD_of (q7.a 4 rfl)]
  rfl
theorem GY.xs {E : Nat → Value} {w : World} {b B : Nat} {va vb : Value} {La Lb : List (SV Int)} (G : GY yBy zByB 0 E w b B va vb La Lb) {x : SV Int} (hx : x ∈ La) : SlY yB9 w x.a x.D.length x.c x.D := (G.da x hx).sl' kBy
theorem GY.ys {E : Nat → Value} {w : World} {b B : Nat} {va vb : Value} {La Lb : List (SV Int)} (G : GY yBy zByB 0 E w b B va vb La Lb) {x : SV Int} (hx : x ∈ Lb) : SlY yB9 w x.a x.D.length x.c x.D := (G.db x hx).sl' kBy
set_option maxRecDepth 100000 in
set_option maxHeartbeats 2000000 in
theorem intactB19 (b B : Nat) (va vb : Value) (La Lb : List (SV Int)) (w : World) (G : GY yBy zByB 0 (fun _ => .slice none 0 0) w b B va vb La Lb) (hD : La.map (·.D) = Lb.map (·.D)) (hne : ∀ x ∈ La, x.D ≠ []) (hl : La.length < 9000000000000000000) :
    Calls Try.prog 13 #[.pointer (some ⟨b, 0, none⟩)] w fun e w' => e = .returned (.bool true) ∧ Below w.heap.size w w' := by
  go_enter Try.func13, Try.ntmps13
  go_upto_region 0 with fail
  refine wp_region_lit ?_
  refine vl_gen (fun T => Rp T 133 [(0, gw true (.pointer (some ⟨b, 0, none⟩)))]) ((Rp.nil rfl).cons rfl) (fun Z0 q0 => ?_)
  obtain ⟨aA, cA, hva, sA, _⟩ := G.oa.sl kzByB
  obtain ⟨aB, cB, hvb, sB, _⟩ := G.ob.sl kzByB
  have hlen : Lb.length = La.length := by have := congrArg List.length hD; simpa using this.symm
  subst hva hvb
  refine q0.t (.bool false) (ex_assign rfl rfl) fun _ q1 => ?_;clear q0
  refine wpList_nil ?_
  go_upto_region 1 with fail
  refine wp_region_lit ?_
  refine q1.t (.int .i64 ((0 : Nat) : Int)) (ex_assign rfl rfl) fun _ q2 => ?_;clear q1
  have q3 := (((Rp.nil q2.z).cons (q2.a 0 rfl)).cons (q2.a 3 rfl))
  clear q2
  refine wpList_nil ?_
  go_upto_region 2 with fail
  refine v_loop 3 La.length (fun j T wr => Rp T 133 [(3, gw true (.int .i64 ((j : Nat) : Int))), (0, gw true (.pointer (some ⟨b, 0, none⟩)))] ∧ Hid (Below w.heap.size w wr)) (fun j T w h => h.1.a 3 rfl) ⟨q3, (Below.refl w.heap.size w)⟩ ?_
  clear q3
  intro j1 T1 r1 hj1 hh1
  obtain ⟨q100, HJ1⟩ := hh1
  have b1 := HJ1.out
  clear HJ1
  have G1 := G.bel b1
  by_cases hit : j1 < La.length
  · obtain ⟨x, hx⟩ : ∃ x, La[j1]? = some x := ⟨_, List.getElem?_eq_getElem hit⟩
    obtain ⟨y, hy⟩ : ∃ y, Lb[j1]? = some y := ⟨_, List.getElem?_eq_getElem (by omega)⟩
    have hxy : y.D = x.D := by
      have e1 : (La.map (·.D))[j1]? = some x.D := by rw [List.getElem?_map, hx]; rfl
      have e2 : (Lb.map (·.D))[j1]? = some y.D := by rw [List.getElem?_map, hy]; rfl
      rw [hD, e2] at e1
      exact Option.some.inj e1
    have hxm := List.mem_of_getElem? hx
    have hym := List.mem_of_getElem? hy
    obtain ⟨qa, oa, hqa, hqal, hla⟩ := (sA.on b1 (Nat.le_refl _)).place (by rintro rfl; simp at hit)
    obtain ⟨qb, ob, hqb, hqbl, hlb⟩ := (sB.on b1 (Nat.le_refl _)).place (by rintro rfl; simp at hy)
    have cx : ∀ {v : World}, Below r1.heap.size r1 v → v.cell? ⟨qa, oa + j1, none⟩ = some (.slice x.a x.D.length x.c) := fun hv => by
      have := (hv.cell (p := ⟨qa, oa + j1 * zByB.k + 0, none⟩) hqal).trans (hla j1 x hx 0 _ rfl)
      simpa [zByB, yS] using this
    have cy : ∀ {v : World}, Below r1.heap.size r1 v → v.cell? ⟨qb, ob + j1, none⟩ = some (.slice y.a y.D.length y.c) := fun hv => by
      have := (hv.cell (p := ⟨qb, ob + j1 * zByB.k + 0, none⟩) hqbl).trans (hlb j1 y hy 0 _ rfl)
      simpa [zByB, yS] using this
    go_upto_region 2 with fail
    refine wp_region_lit ?_
    refine q100.t (.int .i64 ((j1 : Nat) : Int)) (ex_move rfl (q100.e (j := 3) rfl)) fun _ q101 => ?_;clear q100
    refine q101.t (.pointer (some ⟨b, 0, none⟩)) (ex_move rfl (q101.e (j := 0) rfl)) fun _ q102 => ?_;clear q101
    refine q102.t (.pointer (some ⟨b, 0, none⟩)) (ex_nil rfl (q102.e (j := 9) rfl)) fun _ q103 => ?_;clear q102
    refine q103.t (.pointer (some ⟨b, 0, none⟩)) (ex_fa rfl (q103.e (j := 10) rfl) (faGv b 0 (by decide) _)) fun _ q104 => ?_;clear q103
    refine q104.t (.slice aA La.length cA) (ex_ld rfl (q104.e (j := 11) rfl) (ldGb G1.ca)) fun _ q105 => ?_;clear q104
    refine q105.t (.int .i64 ((La.length : Nat) : Int)) (ex_lenG rfl rfl Try.underlying23 (q105.e (j := 12) rfl)) fun _ q106 => ?_;clear q105
    refine q106.t (.bool true) (ex_bin rfl (q106.e (j := 8) rfl) (q106.e (j := 13) rfl) (ltT _ _ (by omega) _)) fun _ q107 => ?_;clear q106
    refine wpList_nil ?_
    go_upto_region 4 with fail
    refine wp_cond_true (q107.e (j := 14) rfl) ?_
    go_upto_region 4 with fail
    refine vq_start (C := fun v => Below r1.heap.size r1 v) (by kernel_rfl) (by kernel_rfl) (Below.refl _ _).drew ?_
    refine q107.q (.pointer (some ⟨b, 0, none⟩)) (fun v hv => ex_move rfl (q107.e (j := 0) rfl)) fun _ q108 => ?_;clear q107
    refine q108.q (.pointer (some ⟨b, 0, none⟩)) (fun v hv => ex_nil rfl (q108.e (j := 17) rfl)) fun _ q109 => ?_;clear q108
    refine q109.q (.pointer (some ⟨b, 0, none⟩)) (fun v hv => ex_fa rfl (q109.e (j := 18) rfl) (faGv b 0 (by decide) _)) fun _ q110 => ?_;clear q109
    refine q110.q (.slice aA La.length cA) (fun v hv => ex_ld rfl (q110.e (j := 19) rfl) (ldGb (G1.bel hv).ca)) fun _ q111 => ?_;clear q110
    refine q111.q (.int .i64 ((j1 : Nat) : Int)) (fun v hv => ex_move rfl (q111.e (j := 3) rfl)) fun _ q112 => ?_;clear q111
    refine q112.q (.pointer (some ⟨qa, (oa + j1), none⟩)) (fun v hv => ex_ix rfl (q112.e (j := 20) rfl) (q112.e (j := 21) rfl) (by rw [hqa]; exact ixBB qa oa La.length cA j1 hit _)) fun _ q113 => ?_;clear q112
    refine q113.q (.slice x.a x.D.length x.c) (fun v hv => ex_ld rfl (q113.e (j := 22) rfl) (ldBs (cx hv))) fun _ q114 => ?_;clear q113
    refine q114.q (.pointer (some ⟨b, 0, none⟩)) (fun v hv => ex_move rfl (q114.e (j := 0) rfl)) fun _ q115 => ?_;clear q114
    refine q115.q (.pointer (some ⟨b, 0, none⟩)) (fun v hv => ex_nil rfl (q115.e (j := 24) rfl)) fun _ q116 => ?_;clear q115
    refine q116.q (.pointer (some ⟨b, 1, none⟩)) (fun v hv => ex_fa rfl (q116.e (j := 25) rfl) (faGv b 1 (by decide) _)) fun _ q117 => ?_;clear q116
    refine q117.q (.slice aB Lb.length cB) (fun v hv => ex_ld rfl (q117.e (j := 26) rfl) (ldGb (G1.bel hv).cb)) fun _ q118 => ?_;clear q117
    refine q118.q (.int .i64 ((j1 : Nat) : Int)) (fun v hv => ex_move rfl (q118.e (j := 3) rfl)) fun _ q119 => ?_;clear q118
    refine q119.q (.pointer (some ⟨qb, (ob + j1), none⟩)) (fun v hv => ex_ix rfl (q119.e (j := 27) rfl) (q119.e (j := 28) rfl) (by rw [hqb]; exact ixBB qb ob Lb.length cB j1 (by omega) _)) fun _ q120 => ?_;clear q119
    refine q120.q (.slice y.a y.D.length y.c) (fun v hv => ex_ld rfl (q120.e (j := 29) rfl) (ldBs (cy hv))) fun _ q121 => ?_;clear q120
    refine vq_call18 (true) (.bool true) (want_none rfl) (fun hc v hv => ex_call rfl (by simp only [List.map_toArray, List.map_cons, List.map_nil, (q121.e (j := 23) rfl), (q121.e (j := 30) rfl), evc] <;> rfl) rfl) (fun hc v hv => (by rw [hxy]; exact (sameB19 x.D x.a y.a x.c y.c v ((G1.bel hv).xs hxm) (by have := (G1.bel hv).ys hym; rw [hxy] at this; exact this) (hne x hxm)).mono fun e w9 h9 => ⟨h9.1, h9.2 ▸ hv⟩)) rfl q121.z (by decide) (q121.k fun _ q122 => ?_);clear q121
    refine q122.q (.bool false) (fun v hv => ex_not rfl (q122.e (j := 31) rfl)) fun _ q123 => ?_;clear q122
    refine vq_nil (fun x1 hx1 => ?_)
    have q124 := ((((Rp.nil q123.z).cons (q123.a 0 rfl)).cons (q123.a 3 rfl)).cons (q123.a 32 rfl))
    clear q123
    go_upto_region 3 with fail
    refine wp_cond_false (q124.e (j := 32) rfl) ?_
    go_upto_region 3 with fail
    refine wp_region_lit ?_
    refine q124.t (.int .i64 ((j1 : Nat) : Int)) (ex_move rfl (q124.e (j := 3) rfl)) fun _ q125 => ?_;clear q124
    refine q125.t (.int .i64 ((j1 + 1 : Nat) : Int)) (ex_bin rfl (q125.e (j := 15) rfl) rfl (add1C _ _ j1 (by omega) _)) fun _ q126 => ?_;clear q125
    refine q126.t (.int .i64 ((j1 + 1 : Nat) : Int)) (ex_assign rfl (q126.e (j := 16) rfl)) fun _ q127 => ?_;clear q126
    have q128 := (((Rp.nil q127.z).cons (q127.a 0 rfl)).cons (q127.a 3 rfl))
    clear q127
    refine wpList_nil ?_
    exact ⟨_, rfl, hit, q128, b1.trans (hx1.mono b1.size)⟩
  · obtain rfl : j1 = La.length := by omega
    go_upto_region 2 with fail
    refine wp_region_lit ?_
    refine q100.t (.int .i64 ((La.length : Nat) : Int)) (ex_move rfl (q100.e (j := 3) rfl)) fun _ q101 => ?_;clear q100
    refine q101.t (.pointer (some ⟨b, 0, none⟩)) (ex_move rfl (q101.e (j := 0) rfl)) fun _ q102 => ?_;clear q101
    refine q102.t (.pointer (some ⟨b, 0, none⟩)) (ex_nil rfl (q102.e (j := 9) rfl)) fun _ q103 => ?_;clear q102
    refine q103.t (.pointer (some ⟨b, 0, none⟩)) (ex_fa rfl (q103.e (j := 10) rfl) (faGv b 0 (by decide) _)) fun _ q104 => ?_;clear q103
    refine q104.t (.slice aA La.length cA) (ex_ld rfl (q104.e (j := 11) rfl) (ldGb G1.ca)) fun _ q105 => ?_;clear q104
    refine q105.t (.int .i64 ((La.length : Nat) : Int)) (ex_lenG rfl rfl Try.underlying23 (q105.e (j := 12) rfl)) fun _ q106 => ?_;clear q105
    refine q106.t (.bool false) (ex_bin rfl (q106.e (j := 8) rfl) (q106.e (j := 13) rfl) (ltF _ _ (by omega) _)) fun _ q107 => ?_;clear q106
    refine wpList_nil ?_
    go_upto_region 6 with fail
    refine wp_cond_false (q107.e (j := 14) rfl) ?_
    go_upto_region 6 with fail
    refine wp_region_lit ?_
    refine q107.t (.int .i64 ((0 : Nat) : Int)) (ex_assign rfl rfl) fun _ q108 => ?_;clear q107
    have q109 := (((Rp.nil q108.z).cons (q108.a 0 rfl)).cons (q108.a 4 rfl))
    clear q108
    refine wpList_nil ?_
    go_upto_region 7 with fail
    refine v_loop 4 0 (fun j T wr => Rp T 133 [(4, gw true (.int .i64 ((j : Nat) : Int))), (0, gw true (.pointer (some ⟨b, 0, none⟩)))] ∧ Hid (Below w.heap.size w wr)) (fun j T w h => h.1.a 4 rfl) ⟨q109, b1⟩ ?_
    clear q109
    intro j2 T2 r2 hj2 hh2
    obtain ⟨q200, HJ2⟩ := hh2
    have b2 := HJ2.out
    clear HJ2
    have G2 := G.bel b2
    obtain rfl : j2 = 0 := by omega
    go_upto_region 7 with fail
    refine wp_region_lit ?_
    refine q200.t (.int .i64 ((0 : Nat) : Int)) (ex_move rfl (q200.e (j := 4) rfl)) fun _ q201 => ?_;clear q200
    refine q201.t (.pointer (some ⟨b, 0, none⟩)) (ex_move rfl (q201.e (j := 0) rfl)) fun _ q202 => ?_;clear q201
    refine q202.t (.pointer (some ⟨b, 0, none⟩)) (ex_nil rfl (q202.e (j := 34) rfl)) fun _ q203 => ?_;clear q202
    refine q203.t (.pointer (some ⟨b, 8, none⟩)) (ex_fa rfl (q203.e (j := 35) rfl) (faGv b 8 (by decide) _)) fun _ q204 => ?_;clear q203
    refine q204.t (.slice none 0 0) (ex_ld rfl (q204.e (j := 36) rfl) (ldGs (G2.ce 8 (by decide) (by decide) (by decide)))) fun _ q205 => ?_;clear q204
    refine q205.t (.int .i64 ((0 : Nat) : Int)) (ex_lenG rfl rfl Try.underlying27 (q205.e (j := 37) rfl)) fun _ q206 => ?_;clear q205
    refine q206.t (.bool false) (ex_bin rfl (q206.e (j := 33) rfl) (q206.e (j := 38) rfl) (ltF _ _ (by omega) _)) fun _ q207 => ?_;clear q206
    refine wpList_nil ?_
    go_upto_region 11 with fail
    refine wp_cond_false (q207.e (j := 39) rfl) ?_
    go_upto_region 11 with fail
    refine wp_region_lit ?_
    refine q207.t (.int .i64 ((0 : Nat) : Int)) (ex_assign rfl rfl) fun _ q208 => ?_;clear q207
    have q209 := (((Rp.nil q208.z).cons (q208.a 0 rfl)).cons (q208.a 5 rfl))
    clear q208
    refine wpList_nil ?_
    go_upto_region 12 with fail
    refine v_loop 5 0 (fun j T wr => Rp T 133 [(5, gw true (.int .i64 ((j : Nat) : Int))), (0, gw true (.pointer (some ⟨b, 0, none⟩)))] ∧ Hid (Below w.heap.size w wr)) (fun j T w h => h.1.a 5 rfl) ⟨q209, b2⟩ ?_
    clear q209
    intro j3 T3 r3 hj3 hh3
    obtain ⟨q300, HJ3⟩ := hh3
    have b3 := HJ3.out
    clear HJ3
    have G3 := G.bel b3
    obtain rfl : j3 = 0 := by omega
    go_upto_region 12 with fail
    refine wp_region_lit ?_
    refine q300.t (.int .i64 ((0 : Nat) : Int)) (ex_move rfl (q300.e (j := 5) rfl)) fun _ q301 => ?_;clear q300
    refine q301.t (.pointer (some ⟨b, 0, none⟩)) (ex_move rfl (q301.e (j := 0) rfl)) fun _ q302 => ?_;clear q301
    refine q302.t (.pointer (some ⟨b, 0, none⟩)) (ex_nil rfl (q302.e (j := 59) rfl)) fun _ q303 => ?_;clear q302
    refine q303.t (.pointer (some ⟨b, 6, none⟩)) (ex_fa rfl (q303.e (j := 60) rfl) (faGv b 6 (by decide) _)) fun _ q304 => ?_;clear q303
    refine q304.t (.slice none 0 0) (ex_ld rfl (q304.e (j := 61) rfl) (ldGi (G3.ce 6 (by decide) (by decide) (by decide)))) fun _ q305 => ?_;clear q304
    refine q305.t (.int .i64 ((0 : Nat) : Int)) (ex_lenG rfl rfl Try.underlying26 (q305.e (j := 62) rfl)) fun _ q306 => ?_;clear q305
    refine q306.t (.bool false) (ex_bin rfl (q306.e (j := 58) rfl) (q306.e (j := 63) rfl) (ltF _ _ (by omega) _)) fun _ q307 => ?_;clear q306
    refine wpList_nil ?_
    go_upto_region 16 with fail
    refine wp_cond_false (q307.e (j := 64) rfl) ?_
    go_upto_region 16 with fail
    refine wp_region_lit ?_
    refine q307.t (.int .i64 ((0 : Nat) : Int)) (ex_assign rfl rfl) fun _ q308 => ?_;clear q307
    have q309 := (((Rp.nil q308.z).cons (q308.a 0 rfl)).cons (q308.a 6 rfl))
    clear q308
    refine wpList_nil ?_
    go_upto_region 17 with fail
    refine v_loop 6 0 (fun j T wr => Rp T 133 [(6, gw true (.int .i64 ((j : Nat) : Int))), (0, gw true (.pointer (some ⟨b, 0, none⟩)))] ∧ Hid (Below w.heap.size w wr)) (fun j T w h => h.1.a 6 rfl) ⟨q309, b3⟩ ?_
    clear q309
    intro j4 T4 r4 hj4 hh4
    obtain ⟨q400, HJ4⟩ := hh4
    have b4 := HJ4.out
    clear HJ4
    have G4 := G.bel b4
    obtain rfl : j4 = 0 := by omega
    go_upto_region 17 with fail
    refine wp_region_lit ?_
    refine q400.t (.int .i64 ((0 : Nat) : Int)) (ex_move rfl (q400.e (j := 6) rfl)) fun _ q401 => ?_;clear q400
    refine q401.t (.pointer (some ⟨b, 0, none⟩)) (ex_move rfl (q401.e (j := 0) rfl)) fun _ q402 => ?_;clear q401
    refine q402.t (.pointer (some ⟨b, 0, none⟩)) (ex_nil rfl (q402.e (j := 84) rfl)) fun _ q403 => ?_;clear q402
    refine q403.t (.pointer (some ⟨b, 2, none⟩)) (ex_fa rfl (q403.e (j := 85) rfl) (faGv b 2 (by decide) _)) fun _ q404 => ?_;clear q403
    refine q404.t (.slice none 0 0) (ex_ld rfl (q404.e (j := 86) rfl) (ldGv (G4.ce 2 (by decide) (by decide) (by decide)))) fun _ q405 => ?_;clear q404
    refine q405.t (.int .i64 ((0 : Nat) : Int)) (ex_lenG rfl rfl Try.underlying24 (q405.e (j := 87) rfl)) fun _ q406 => ?_;clear q405
    refine q406.t (.bool false) (ex_bin rfl (q406.e (j := 83) rfl) (q406.e (j := 88) rfl) (ltF _ _ (by omega) _)) fun _ q407 => ?_;clear q406
    refine wpList_nil ?_
    go_upto_region 21 with fail
    refine wp_cond_false (q407.e (j := 89) rfl) ?_
    go_upto_region 21 with fail
    refine wp_region_lit ?_
    refine q407.t (.int .i64 ((0 : Nat) : Int)) (ex_assign rfl rfl) fun _ q408 => ?_;clear q407
    have q409 := (((Rp.nil q408.z).cons (q408.a 0 rfl)).cons (q408.a 7 rfl))
    clear q408
    refine wpList_nil ?_
    go_upto_region 22 with fail
    refine v_loop 7 0 (fun j T wr => Rp T 133 [(7, gw true (.int .i64 ((j : Nat) : Int))), (0, gw true (.pointer (some ⟨b, 0, none⟩)))] ∧ Hid (Below w.heap.size w wr)) (fun j T w h => h.1.a 7 rfl) ⟨q409, b4⟩ ?_
    clear q409
    intro j5 T5 r5 hj5 hh5
    obtain ⟨q500, HJ5⟩ := hh5
    have b5 := HJ5.out
    clear HJ5
    have G5 := G.bel b5
    obtain rfl : j5 = 0 := by omega
    go_upto_region 22 with fail
    refine wp_region_lit ?_
    refine q500.t (.int .i64 ((0 : Nat) : Int)) (ex_move rfl (q500.e (j := 7) rfl)) fun _ q501 => ?_;clear q500
    refine q501.t (.pointer (some ⟨b, 0, none⟩)) (ex_move rfl (q501.e (j := 0) rfl)) fun _ q502 => ?_;clear q501
    refine q502.t (.pointer (some ⟨b, 0, none⟩)) (ex_nil rfl (q502.e (j := 109) rfl)) fun _ q503 => ?_;clear q502
    refine q503.t (.pointer (some ⟨b, 4, none⟩)) (ex_fa rfl (q503.e (j := 110) rfl) (faGv b 4 (by decide) _)) fun _ q504 => ?_;clear q503
    refine q504.t (.slice none 0 0) (ex_ld rfl (q504.e (j := 111) rfl) (ldGe (G5.ce 4 (by decide) (by decide) (by decide)))) fun _ q505 => ?_;clear q504
    refine q505.t (.int .i64 ((0 : Nat) : Int)) (ex_lenG rfl rfl Try.underlying25 (q505.e (j := 112) rfl)) fun _ q506 => ?_;clear q505
    refine q506.t (.bool false) (ex_bin rfl (q506.e (j := 108) rfl) (q506.e (j := 113) rfl) (ltF _ _ (by omega) _)) fun _ q507 => ?_;clear q506
    refine wpList_nil ?_
    go_upto_region 26 with fail
    refine wp_cond_false (q507.e (j := 114) rfl) ?_
    go_upto_region 26 with fail
    refine wp_region_lit ?_
    refine q507.t (.bool true) (ex_assign rfl rfl) fun _ q508 => ?_;clear q507
    refine wpList_nil ?_
    go_wp2
    refine bodyPost_ret (results_tmp rfl _ _ _) rfl ⟨?_, b5⟩
    rw [getD_of (q508.a 2 rfl)]
    rfl

end Go.Proofs.Ytjodieiaccfkiaa
