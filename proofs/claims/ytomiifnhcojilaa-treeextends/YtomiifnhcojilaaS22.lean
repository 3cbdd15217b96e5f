import Derived.Test.YtomiifnhcojilaaS21
namespace Go.Proofs.Ytomiifnhcojilaa
open Go.RowKit Go.Maps
open Classical
set_option linter.unusedVariables false
set_option linter.unusedSimpArgs false

theorem BB.slu {w : World} {q : Nat} {T : TypeId} {L : List Int} (h : BB w q T (L.map uV)) (hm : L.length ≤ maxLen) : SlY yU9 w (some ⟨q, 0, none⟩) L.length L.length L := by
  refine ⟨rfl, Nat.le_refl _, hm, (fun e => by cases e), fun x hx => .inr ⟨q, 0, (Option.some.inj hx).symm, h.lt, fun i x hx j v hv => ?_⟩⟩
  obtain ⟨hi, rfl⟩ := List.getElem?_eq_some_iff.1 hx
  have hj : j = 0 := by
    cases j with
    | zero => rfl
    | succ j => simp [yU9] at hv
  subst hj
  obtain rfl : Value.int .u32 L[i] = v := by simpa [yU9] using hv
  have := h.u9 hi
  rw [List.getD_eq_getElem?_getD, List.getElem?_eq_getElem hi] at this
  simpa [yU9] using this
theorem SlY.u9 {w : World} {a : Option Addr} {n c : Nat} {L : List Int} (h : SlY yU9 w a n c L) {j : Nat} (hj : j < L.length) : ∃ q o, a = some ⟨q, o, none⟩ ∧ q < w.heap.size ∧ w.cell? ⟨q, o + j, none⟩ = some (.int .u32 (L.getD j 0)) := by
  obtain ⟨q, o, ea, hq, hl⟩ := h.place (by rintro rfl; simp at hj)
  have hx := List.getElem?_eq_getElem hj
  have := hl j _ hx 0 _ rfl
  refine ⟨q, o, ea, hq, ?_⟩
  rw [List.getD_eq_getElem?_getD, hx]
  simpa [yU9] using this
theorem mku (n : Nat) (hn : n ≤ 1000) (w : World) : ∃ w', (Instr.makeSlice 104 (.int .i64 (n : Int)) (.int .i64 (n : Int))).run Try.prog w = .ok (.slice (some ⟨w.heap.size, 0, none⟩) n n) w' ∧ BB w' w.heap.size 103 ((List.replicate n 0).map uV) ∧ Below w.heap.size w w' := by
  obtain ⟨zv, hinfo, hzc⟩ := kU9.info
  obtain ⟨i0, hi, hz0, hz1, hz2⟩ := info_parts hinfo
  have hr := run_make (P := Try.prog) w yU9.ST yU9.T i0 zv kU9.und hi hz0 .i64 .i64 n n (by omega) (Int.le_refl _) (room_int hz2 (by show n * 4 ≤ _; omega)) (by omega)
  rw [Int.toNat_natCast, hz1] at hr
  refine ⟨_, hr, ?_, (Below.refl _ _).alloc (Nat.le_refl _) _⟩
  have hf : ∀ m : Nat, fl yU9 (List.replicate m 0) = (List.replicate m 0).map uV := fun m => by
    induction m with
    | zero => rfl
    | succ m ih => rw [List.replicate_succ, fl, ih]; rfl
  have hm2 : (madeCells zv.cells (n * yU9.k)).toList = (List.replicate n 0).map uV := (madeY kU9 hzc n).trans (hf n)
  have e : madeCells zv.cells (n * yU9.k) = ((List.replicate n 0).map uV).toArray := by rw [← hm2]
  rw [e]
  exact World.alloc_heap_new _ _
theorem ixU (q o n c j : Nat) (hj : j < n) (w : World) : (Instr.indexAt 104 (.slice (some ⟨q, o, none⟩) n c) (.int .i64 (j : Int))).run Try.prog w = .ok (.pointer (some ⟨q, o + j, none⟩)) w := by
  have h1 : (j : Int) < (n : Int) := by omega
  go_simp
theorem ixU0 (q n c j : Nat) (hj : j < n) (w : World) : (Instr.indexAt 104 (.slice (some ⟨q, 0, none⟩) n c) (.int .i64 (j : Int))).run Try.prog w = .ok (.pointer (some ⟨q, j, none⟩)) w := by
  have := ixU q 0 n c j hj w
  rwa [Nat.zero_add] at this
theorem bs8U (t : St) (w : World) : (Instr.buildSlice 104 8 #[(0, .int .u32 t.a), (1, .int .u32 t.b), (2, .int .u32 t.c), (3, .int .u32 t.d), (4, .int .u32 t.e), (5, .int .u32 t.f), (6, .int .u32 t.g), (7, .int .u32 t.h)]).run Try.prog w = .ok (.slice (some ⟨w.heap.size, 0, none⟩) 8 8) (w.alloc (.cells (t.l.map uV).toArray 103)) := by
  simp only [St.l, List.map_cons, List.map_nil, uV]
  go_simp
theorem ex_bs8 {o : Oper} {ρ : Operand → Value} {s : TypeId} {x0 x1 x2 x3 x4 x5 x6 x7 : Operand} {X0 X1 X2 X3 X4 X5 X6 X7 V : Value} {w w' : World} (ho : o.op = .buildSlice s 8 #[(0, x0), (1, x1), (2, x2), (3, x3), (4, x4), (5, x5), (6, x6), (7, x7)]) (h0 : ρ x0 = X0) (h1 : ρ x1 = X1) (h2 : ρ x2 = X2) (h3 : ρ x3 = X3) (h4 : ρ x4 = X4) (h5 : ρ x5 = X5) (h6 : ρ x6 = X6) (h7 : ρ x7 = X7) (hr : (Instr.buildSlice s 8 #[(0, X0), (1, X1), (2, X2), (3, X3), (4, X4), (5, X5), (6, X6), (7, X7)]).run Try.prog w = .ok V w') : (execOp ρ o).run Try.prog w = .ok (.value V) w' := by
  unfold execOp
  simp only [ho, List.map_toArray, List.map_cons, List.map_nil, h0, h1, h2, h3, h4, h5, h6, h7, Sem.run_bind, hr, Result.andThen_ok]
  rfl
def sh9 (b : List Int) (i k : Nat) : Int := IntKind.u32.wrap (IntKind.u32.wrap (b.getD i 0) * 2 ^ k)
def wqF (b : List Int) (j : Nat) : Int := bits .or .u32 (bits .or .u32 (bits .or .u32 (sh9 b (4 * j) 24) (sh9 b (4 * j + 1) 16)) (sh9 b (4 * j + 2) 8)) (IntKind.u32.wrap (b.getD (4 * j + 3) 0))
def wA (b : List Int) : Nat → List Int
  | 0 => List.replicate 64 0
  | j + 1 => (wA b j).set j (wqF b j)
theorem wA_len (b : List Int) : ∀ i, (wA b i).length = 64
  | 0 => by simp [wA]
  | i + 1 => by rw [wA, List.length_set, wA_len b i]
theorem orJ (x y : Int) (i : Nat) (hx0 : 0 ≤ x) (hx : x % 2 ^ i = 0) (hx1 : x < 4294967296) (hy0 : 0 ≤ y) (hy : y < 2 ^ i) (hy1 : y < 4294967296) : bits .or .u32 x y = x + y :=
  bits_join .u32 32 (Nat.le_refl _) (fun n h0 h1 => by rw [IntKind.wrap_u32]; omega) i x y hx0 hx (by show x < 4294967296; exact hx1) hy0 hy (by show y < 4294967296; exact hy1)
theorem orS (v b : Int) (hv : 0 ≤ v) (hv2 : v < 16777216) (hb : 0 ≤ b) (hb2 : b < 256) : bits .or .u32 (IntKind.u32.wrap (v * 2 ^ 8)) (IntKind.u32.wrap b) = v * 256 + b := by
  have e1 : IntKind.u32.wrap (v * 2 ^ 8) = v * 256 := by rw [IntKind.wrap_u32]; omega
  have e2 : IntKind.u32.wrap b = b := by rw [IntKind.wrap_u32]; omega
  rw [e1, e2, orJ _ _ 8 (by omega) (by omega) (by omega) hb (by omega) (by omega)]
theorem wqF_eq (b : List Int) (hb : ∀ i, 0 ≤ b.getD i 0 ∧ b.getD i 0 < 256) (j : Nat) : wqF b j = ((b.getD (4 * j) 0 * 256 + b.getD (4 * j + 1) 0) * 256 + b.getD (4 * j + 2) 0) * 256 + b.getD (4 * j + 3) 0 := by
  have h0 := hb (4 * j)
  have h1 := hb (4 * j + 1)
  have h2 := hb (4 * j + 2)
  have h3 := hb (4 * j + 3)
  unfold wqF sh9
  generalize b.getD (4 * j) 0 = x0 at *
  generalize b.getD (4 * j + 1) 0 = x1 at *
  generalize b.getD (4 * j + 2) 0 = x2 at *
  generalize b.getD (4 * j + 3) 0 = x3 at *
  have w : ∀ x : Int, 0 ≤ x → x < 4294967296 → IntKind.u32.wrap x = x := fun x a c => by rw [IntKind.wrap_u32]; omega
  rw [w x0 h0.1 (by omega), w x1 h1.1 (by omega), w x2 h2.1 (by omega), w x3 h3.1 (by omega), w (x0 * 2 ^ 24) (by omega) (by omega), w (x1 * 2 ^ 16) (by omega) (by omega), w (x2 * 2 ^ 8) (by omega) (by omega)]
  rw [orJ (x0 * 2 ^ 24) (x1 * 2 ^ 16) 24 (by omega) (by omega) (by omega) (by omega) (by omega) (by omega), orJ _ (x2 * 2 ^ 8) 16 (by omega) (by omega) (by omega) (by omega) (by omega) (by omega), orJ _ x3 8 (by omega) (by omega) (by omega) (by omega) (by omega) (by omega)]
  omega
theorem set_rep64 (X : List Int) (k : Nat) (hX : X.length = k) (v : Int) (y : Int) (m : Nat) : (X ++ y :: List.replicate m 0).set k v = X ++ v :: List.replicate m 0 ∧ (X ++ y :: List.replicate m 0).getD k 0 = y := by
  subst hX
  refine ⟨by rw [List.set_append_right _ _ (Nat.le_refl _), Nat.sub_self, List.set_cons_zero], ?_⟩
  rw [List.getD_eq_getElem?_getD, List.getElem?_append_right (Nat.le_refl _), Nat.sub_self]
  rfl
theorem wA_eq (b : List Int) : ∀ k, k ≤ 16 → wA b k = (List.range k).map (wqF b) ++ List.replicate (64 - k) 0
  | 0, _ => by simp [wA]
  | k + 1, hk => by
    have e0 : List.replicate (64 - k) (0 : Int) = 0 :: List.replicate (64 - (k + 1)) 0 := by rw [show 64 - k = (64 - (k + 1)) + 1 by omega, List.replicate_succ]
    rw [wA, wA_eq b k (by omega), e0, (set_rep64 _ k (by simp) _ 0 _).1, List.range_succ, List.map_append, List.append_assoc]
    rfl
theorem wS_eq (b : List Int) (hb : ∀ i, 0 ≤ b.getD i 0 ∧ b.getD i 0 < 256) : ∀ k, k ≤ 16 → wS b (4 * k) = (List.range k).map (wqF b) ++ List.replicate (64 - k) 0
  | 0, _ => by simp [wS]
  | k + 1, hk => by
    have hX : ((List.range k).map (wqF b)).length = k := by simp
    have e0 : List.replicate (64 - k) (0 : Int) = 0 :: List.replicate (64 - (k + 1)) 0 := by rw [show 64 - k = (64 - (k + 1)) + 1 by omega, List.replicate_succ]
    have h0 := hb (4 * k)
    have h1 := hb (4 * k + 1)
    have h2 := hb (4 * k + 2)
    have h3 := hb (4 * k + 3)
    have i1 : wS b (4 * k + 1) = (List.range k).map (wqF b) ++ b.getD (4 * k) 0 :: List.replicate (64 - (k + 1)) 0 := by
      rw [wS, wS_eq b hb k (by omega), e0, show 4 * k / 4 = k by omega, (set_rep64 _ k hX _ 0 _).1, (set_rep64 _ k hX 0 0 _).2, orS 0 _ (by omega) (by omega) h0.1 h0.2]
      congr 2
      omega
    have i2 : wS b (4 * k + 2) = (List.range k).map (wqF b) ++ (b.getD (4 * k) 0 * 256 + b.getD (4 * k + 1) 0) :: List.replicate (64 - (k + 1)) 0 := by
      rw [show 4 * k + 2 = (4 * k + 1) + 1 by omega, wS, i1, show (4 * k + 1) / 4 = k by omega, (set_rep64 _ k hX _ _ _).1, (set_rep64 _ k hX 0 _ _).2, orS _ _ h0.1 (by omega) h1.1 h1.2]
    have i3 : wS b (4 * k + 3) = (List.range k).map (wqF b) ++ ((b.getD (4 * k) 0 * 256 + b.getD (4 * k + 1) 0) * 256 + b.getD (4 * k + 2) 0) :: List.replicate (64 - (k + 1)) 0 := by
      rw [show 4 * k + 3 = (4 * k + 2) + 1 by omega, wS, i2, show (4 * k + 2) / 4 = k by omega, (set_rep64 _ k hX _ _ _).1, (set_rep64 _ k hX 0 _ _).2, orS _ _ (by omega) (by omega) h2.1 h2.2]
    rw [show 4 * (k + 1) = (4 * k + 3) + 1 by omega, wS, i3, show (4 * k + 3) / 4 = k by omega, (set_rep64 _ k hX _ _ _).1, (set_rep64 _ k hX 0 _ _).2, orS _ _ (by omega) (by omega) h3.1 h3.2, ← wqF_eq b hb k, List.range_succ, List.map_append, List.append_assoc]
    rfl
theorem wA_16 (b : List Int) (hb : ∀ i, 0 ≤ b.getD i 0 ∧ b.getD i 0 < 256) : wA b 16 = wT b 0 := by
  rw [wA_eq b 16 (Nat.le_refl _), wT, ← wS_eq b hb 16 (Nat.le_refl _)]
def cpN (s : St) : Nat → List Int
  | 0 => List.replicate 8 0
  | j + 1 => (cpN s j).set j (s.l.getD j 0)
theorem cpN_len (s : St) : ∀ j, (cpN s j).length = 8
  | 0 => rfl
  | j + 1 => by rw [cpN, List.length_set, cpN_len s j]
theorem cpN_8 (s : St) : cpN s 8 = s.l := rfl
theorem ad_comm9 (x y : Int) : ad x y = ad y x := by unfold ad; rw [Int.add_comm]
theorem St.ad_comm (s t : St) : s.ad t = t.ad s := by
  unfold St.ad
  rw [ad_comm9 s.a, ad_comm9 s.b, ad_comm9 s.c, ad_comm9 s.d, ad_comm9 s.e, ad_comm9 s.f, ad_comm9 s.g, ad_comm9 s.h]
set_option maxRecDepth 100000 in
set_option maxHeartbeats 2000000 in
theorem block19 (s : St) (a : Option Addr) (c : Nat) (b : List Int) (a1 : Option Addr) (c1 : Nat) (a2 : Option Addr) (c2 : Nat) (w : World) (h : SlY yU9 w a 8 c s.l) (h1 : SlY yB9 w a1 64 c1 b) (h2 : SlY yU9 w a2 64 c2 kT9) (hbl : b.length = 64) (hby : ∀ i, 0 ≤ b.getD i 0 ∧ b.getD i 0 < 256) :
    Calls Try.prog 72 #[.slice a 8 c, .slice a1 64 c1, .slice a2 64 c2] w fun e w' => ∃ g, e = .returned (.slice (some ⟨g, 0, none⟩) 8 8) ∧ SlY yU9 w' (some ⟨g, 0, none⟩) 8 8 (blkF s b).l ∧ Below w.heap.size w w' := by
  go_enter Try.func72, Try.ntmps72
  go_upto_region 0 with fail
  refine wp_region_lit ?_
  refine vl_gen (fun T => Rp T 232 [(2, gw true (.slice a2 64 c2)), (1, gw true (.slice a1 64 c1)), (0, gw true (.slice a 8 c))]) ((((Rp.nil rfl).cons rfl).cons rfl).cons rfl) (fun Z0 q0 => ?_)
  have hsl : s.l.length = 8 := rfl
  have hkl : kT9.length = 64 := rfl
  refine q0.t (.slice none 0 0) (ex_assign rfl rfl) fun _ q1 => ?_;clear q0
  refine wpList_nil ?_
  go_upto_region 1 with fail
  refine wp_region_lit ?_
  obtain ⟨w1, hk1, B1, b1⟩ := mku 64 (by decide) w
  have z1 := b1.size
  refine vw (.slice (some ⟨w.heap.size, 0, none⟩) 64 64) w1 (want_none rfl) (ex_mk19 rfl rfl rfl hk1) rfl q1.z (by decide) (q1.k fun _ q2 => ?_);clear q1
  refine q2.t (.slice (some ⟨w.heap.size, 0, none⟩) 64 64) (ex_assign rfl (q2.e (j := 20) rfl)) fun _ q3 => ?_;clear q2
  refine wpList_nil ?_
  go_upto_region 2 with fail
  refine wp_region_lit ?_
  refine q3.t (.int .i64 ((0 : Nat) : Int)) (ex_assign rfl rfl) fun _ q4 => ?_;clear q3
  have q5 := ((((((Rp.nil q4.z).cons (q4.a 0 rfl)).cons (q4.a 1 rfl)).cons (q4.a 2 rfl)).cons (q4.a 7 rfl)).cons (q4.a 8 rfl))
  clear q4
  refine wpList_nil ?_
  go_upto_region 3 with fail
  refine v_loop 8 16 (fun j T wr => Rp T 232 [(8, gw true (.int .i64 ((j : Nat) : Int))), (7, gw true (.slice (some ⟨w.heap.size, 0, none⟩) 64 64)), (2, gw true (.slice a2 64 c2)), (1, gw true (.slice a1 64 c1)), (0, gw true (.slice a 8 c))] ∧ Hid (BB wr w.heap.size 103 ((wA b j).map uV) ∧ Below w.heap.size w wr)) (fun j T w h => h.1.a 8 rfl) ⟨q5, B1, b1⟩ ?_
  clear q5 B1 b1 hk1 z1
  intro j T wr hj hh
  obtain ⟨q100, HJ⟩ := hh
  obtain ⟨B1, br⟩ := HJ.out
  clear HJ
  have zr := br.size
  by_cases hit : j < 16
  · go_upto_region 3 with fail
    refine wp_region_lit ?_
    refine q100.t (.int .i64 ((j : Nat) : Int)) (ex_move rfl (q100.e (j := 8) rfl)) fun _ q101 => ?_;clear q100
    refine q101.t (.bool true) (ex_bin rfl (q101.e (j := 21) rfl) rfl (ltT _ _ hit _)) fun _ q102 => ?_;clear q101
    refine wpList_nil ?_
    go_upto_region 5 with fail
    refine wp_cond_true (q102.e (j := 22) rfl) ?_
    go_upto_region 5 with fail
    refine vg_start (fun k => k == 36) (fun v => v = wr.drew) (by kernel_rfl) ?_
    have hd : Below wr.heap.size wr wr.drew := (Below.refl _ _).drew
    have hzd : wr.drew.heap.size = wr.heap.size := rfl
    generalize wr.drew = d at *
    have B1d := B1.later hd
    have bd : Below w.heap.size w d := br.trans (hd.mono zr)
    have hl := wA_len b j
    have cj := B1d.u9 (j := j) (by omega)
    obtain ⟨qb, ob, hqb, hqbl, _⟩ := h1.b9 (j := 0) (by omega)
    subst hqb
    have cb : ∀ i, i < 64 → d.cell? ⟨qb, ob + i, none⟩ = some (.int .u8 (b.getD i 0)) := fun i hi => by
      obtain ⟨q9, o9, e9, _, hc9⟩ := (h1.on bd (Nat.le_refl _)).b9 (j := i) (by omega)
      cases e9
      exact hc9
    refine vg_takeW 0 true (.slice (some ⟨w.heap.size, 0, none⟩) 64 64) rfl (by kernel_rfl) (by kernel_rfl) (by kernel_rfl) (by kernel_rfl) (want_none rfl) (fun hc v => ex_move rfl (q102.e (j := 7) rfl)) rfl q102.z (by decide) (fun _ => rfl) (q102.k fun _ q103 => ?_);clear q102
    refine vg_takeW 1 true (.int .i64 ((j : Nat) : Int)) rfl (by kernel_rfl) (by kernel_rfl) (by kernel_rfl) (by kernel_rfl) (want_none rfl) (fun hc v => ex_move rfl (q103.e (j := 8) rfl)) rfl q103.z (by decide) (fun _ => rfl) (q103.k fun _ q104 => ?_);clear q103
    refine vg_takeW 2 true (.slice (some ⟨qb, ob, none⟩) 64 c1) rfl (by kernel_rfl) (by kernel_rfl) (by kernel_rfl) (by kernel_rfl) (want_none rfl) (fun hc v => ex_move rfl (q104.e (j := 1) rfl)) rfl q104.z (by decide) (fun _ => rfl) (q104.k fun _ q105 => ?_);clear q104
    refine vg_takeW 3 true (.int .i64 ((j : Nat) : Int)) rfl (by kernel_rfl) (by kernel_rfl) (by kernel_rfl) (by kernel_rfl) (want_none rfl) (fun hc v => ex_move rfl (q105.e (j := 8) rfl)) rfl q105.z (by decide) (fun _ => rfl) (q105.k fun _ q106 => ?_);clear q105
    refine vg_takeW 4 true (.int .i64 ((4 * j : Nat) : Int)) rfl (by kernel_rfl) (by kernel_rfl) (by kernel_rfl) (by kernel_rfl) (want_none rfl) (fun hc v => ex_bin rfl rfl (q106.e (j := 28) rfl) (mulC9 _ _ 4 j (by omega) _)) rfl q106.z (by decide) (fun _ => rfl) (q106.k fun _ q107 => ?_);clear q106
    refine vg_takeW 5 true (.pointer (some ⟨qb, (ob + (4 * j)), none⟩)) rfl (by kernel_rfl) (by kernel_rfl) (by kernel_rfl) (by kernel_rfl) (want_none rfl) (fun hc v => ex_ix rfl (q107.e (j := 27) rfl) (q107.e (j := 29) rfl) (ixB9 qb ob 64 c1 (4 * j) (by omega) _)) rfl q107.z (by decide) (fun _ => rfl) (q107.k fun _ q108 => ?_);clear q107
    refine vg_take 6 true (.int .u8 (b.getD (4 * j) 0)) rfl (by kernel_rfl) (by kernel_rfl) (by kernel_rfl) (by kernel_rfl) (by kernel_rfl) (by kernel_rfl) (want_none rfl) (fun hc v hv => by subst hv; exact ex_ld rfl (q108.e (j := 30) rfl) (ld8 (cb (4 * j) (by omega)))) rfl q108.z (by decide) rfl (q108.k fun _ q109 => ?_);clear q108
    refine vg_takeW 7 true (.int .u32 (IntKind.u32.wrap (b.getD (4 * j) 0))) rfl (by kernel_rfl) (by kernel_rfl) (by kernel_rfl) (by kernel_rfl) (want_none rfl) (fun hc v => ex_cv19 rfl (q109.e (j := 31) rfl) (cv8_32 _ _)) rfl q109.z (by decide) (fun _ => rfl) (q109.k fun _ q110 => ?_);clear q109
    refine vg_takeW 8 true (.int .u32 (sh9 b (4 * j) 24)) rfl (by kernel_rfl) (by kernel_rfl) (by kernel_rfl) (by kernel_rfl) (want_none rfl) (fun hc v => ex_bin rfl (q110.e (j := 32) rfl) rfl (shlU _ _ _ 24 (by decide) _)) rfl q110.z (by decide) (fun _ => rfl) (q110.k fun _ q111 => ?_);clear q110
    refine vg_takeW 9 true (.slice (some ⟨qb, ob, none⟩) 64 c1) rfl (by kernel_rfl) (by kernel_rfl) (by kernel_rfl) (by kernel_rfl) (want_none rfl) (fun hc v => ex_move rfl (q111.e (j := 1) rfl)) rfl q111.z (by decide) (fun _ => rfl) (q111.k fun _ q112 => ?_);clear q111
    refine vg_takeW 10 true (.int .i64 ((j : Nat) : Int)) rfl (by kernel_rfl) (by kernel_rfl) (by kernel_rfl) (by kernel_rfl) (want_none rfl) (fun hc v => ex_move rfl (q112.e (j := 8) rfl)) rfl q112.z (by decide) (fun _ => rfl) (q112.k fun _ q113 => ?_);clear q112
    refine vg_takeW 11 true (.int .i64 ((4 * j : Nat) : Int)) rfl (by kernel_rfl) (by kernel_rfl) (by kernel_rfl) (by kernel_rfl) (want_none rfl) (fun hc v => ex_bin rfl rfl (q113.e (j := 35) rfl) (mulC9 _ _ 4 j (by omega) _)) rfl q113.z (by decide) (fun _ => rfl) (q113.k fun _ q114 => ?_);clear q113
    refine vg_takeW 12 true (.int .i64 ((4 * j + 1 : Nat) : Int)) rfl (by kernel_rfl) (by kernel_rfl) (by kernel_rfl) (by kernel_rfl) (want_none rfl) (fun hc v => ex_bin rfl (q114.e (j := 36) rfl) rfl (addC9 _ _ (4 * j) 1 (by omega) _)) rfl q114.z (by decide) (fun _ => rfl) (q114.k fun _ q115 => ?_);clear q114
    refine vg_takeW 13 true (.pointer (some ⟨qb, (ob + (4 * j + 1)), none⟩)) rfl (by kernel_rfl) (by kernel_rfl) (by kernel_rfl) (by kernel_rfl) (want_none rfl) (fun hc v => ex_ix rfl (q115.e (j := 34) rfl) (q115.e (j := 37) rfl) (ixB9 qb ob 64 c1 (4 * j + 1) (by omega) _)) rfl q115.z (by decide) (fun _ => rfl) (q115.k fun _ q116 => ?_);clear q115
    refine vg_take 14 true (.int .u8 (b.getD (4 * j + 1) 0)) rfl (by kernel_rfl) (by kernel_rfl) (by kernel_rfl) (by kernel_rfl) (by kernel_rfl) (by kernel_rfl) (want_none rfl) (fun hc v hv => by subst hv; exact ex_ld rfl (q116.e (j := 38) rfl) (ld8 (cb (4 * j + 1) (by omega)))) rfl q116.z (by decide) rfl (q116.k fun _ q117 => ?_);clear q116
    refine vg_takeW 15 true (.int .u32 (IntKind.u32.wrap (b.getD (4 * j + 1) 0))) rfl (by kernel_rfl) (by kernel_rfl) (by kernel_rfl) (by kernel_rfl) (want_none rfl) (fun hc v => ex_cv19 rfl (q117.e (j := 39) rfl) (cv8_32 _ _)) rfl q117.z (by decide) (fun _ => rfl) (q117.k fun _ q118 => ?_);clear q117
    refine vg_takeW 16 true (.int .u32 (sh9 b (4 * j + 1) 16)) rfl (by kernel_rfl) (by kernel_rfl) (by kernel_rfl) (by kernel_rfl) (want_none rfl) (fun hc v => ex_bin rfl (q118.e (j := 40) rfl) rfl (shlU _ _ _ 16 (by decide) _)) rfl q118.z (by decide) (fun _ => rfl) (q118.k fun _ q119 => ?_);clear q118
    refine vg_takeW 17 true (.int .u32 (bits .or .u32 (sh9 b (4 * j) 24) (sh9 b (4 * j + 1) 16))) rfl (by kernel_rfl) (by kernel_rfl) (by kernel_rfl) (by kernel_rfl) (want_none rfl) (fun hc v => ex_bin rfl (q119.e (j := 33) rfl) (q119.e (j := 41) rfl) (orU _ _ _ _ _)) rfl q119.z (by decide) (fun _ => rfl) (q119.k fun _ q120 => ?_);clear q119
    refine vg_takeW 18 true (.slice (some ⟨qb, ob, none⟩) 64 c1) rfl (by kernel_rfl) (by kernel_rfl) (by kernel_rfl) (by kernel_rfl) (want_none rfl) (fun hc v => ex_move rfl (q120.e (j := 1) rfl)) rfl q120.z (by decide) (fun _ => rfl) (q120.k fun _ q121 => ?_);clear q120
    refine vg_takeW 19 true (.int .i64 ((j : Nat) : Int)) rfl (by kernel_rfl) (by kernel_rfl) (by kernel_rfl) (by kernel_rfl) (want_none rfl) (fun hc v => ex_move rfl (q121.e (j := 8) rfl)) rfl q121.z (by decide) (fun _ => rfl) (q121.k fun _ q122 => ?_);clear q121
    refine vg_takeW 20 true (.int .i64 ((4 * j : Nat) : Int)) rfl (by kernel_rfl) (by kernel_rfl) (by kernel_rfl) (by kernel_rfl) (want_none rfl) (fun hc v => ex_bin rfl rfl (q122.e (j := 44) rfl) (mulC9 _ _ 4 j (by omega) _)) rfl q122.z (by decide) (fun _ => rfl) (q122.k fun _ q123 => ?_);clear q122
    refine vg_takeW 21 true (.int .i64 ((4 * j + 2 : Nat) : Int)) rfl (by kernel_rfl) (by kernel_rfl) (by kernel_rfl) (by kernel_rfl) (want_none rfl) (fun hc v => ex_bin rfl (q123.e (j := 45) rfl) rfl (addC9 _ _ (4 * j) 2 (by omega) _)) rfl q123.z (by decide) (fun _ => rfl) (q123.k fun _ q124 => ?_);clear q123
    refine vg_takeW 22 true (.pointer (some ⟨qb, (ob + (4 * j + 2)), none⟩)) rfl (by kernel_rfl) (by kernel_rfl) (by kernel_rfl) (by kernel_rfl) (want_none rfl) (fun hc v => ex_ix rfl (q124.e (j := 43) rfl) (q124.e (j := 46) rfl) (ixB9 qb ob 64 c1 (4 * j + 2) (by omega) _)) rfl q124.z (by decide) (fun _ => rfl) (q124.k fun _ q125 => ?_);clear q124
    refine vg_take 23 true (.int .u8 (b.getD (4 * j + 2) 0)) rfl (by kernel_rfl) (by kernel_rfl) (by kernel_rfl) (by kernel_rfl) (by kernel_rfl) (by kernel_rfl) (want_none rfl) (fun hc v hv => by subst hv; exact ex_ld rfl (q125.e (j := 47) rfl) (ld8 (cb (4 * j + 2) (by omega)))) rfl q125.z (by decide) rfl (q125.k fun _ q126 => ?_);clear q125
    refine vg_takeW 24 true (.int .u32 (IntKind.u32.wrap (b.getD (4 * j + 2) 0))) rfl (by kernel_rfl) (by kernel_rfl) (by kernel_rfl) (by kernel_rfl) (want_none rfl) (fun hc v => ex_cv19 rfl (q126.e (j := 48) rfl) (cv8_32 _ _)) rfl q126.z (by decide) (fun _ => rfl) (q126.k fun _ q127 => ?_);clear q126
    refine vg_takeW 25 true (.int .u32 (sh9 b (4 * j + 2) 8)) rfl (by kernel_rfl) (by kernel_rfl) (by kernel_rfl) (by kernel_rfl) (want_none rfl) (fun hc v => ex_bin rfl (q127.e (j := 49) rfl) rfl (shlU _ _ _ 8 (by decide) _)) rfl q127.z (by decide) (fun _ => rfl) (q127.k fun _ q128 => ?_);clear q127
    refine vg_takeW 26 true (.int .u32 (bits .or .u32 (bits .or .u32 (sh9 b (4 * j) 24) (sh9 b (4 * j + 1) 16)) (sh9 b (4 * j + 2) 8))) rfl (by kernel_rfl) (by kernel_rfl) (by kernel_rfl) (by kernel_rfl) (want_none rfl) (fun hc v => ex_bin rfl (q128.e (j := 42) rfl) (q128.e (j := 50) rfl) (orU _ _ _ _ _)) rfl q128.z (by decide) (fun _ => rfl) (q128.k fun _ q129 => ?_);clear q128
    refine vg_takeW 27 true (.slice (some ⟨qb, ob, none⟩) 64 c1) rfl (by kernel_rfl) (by kernel_rfl) (by kernel_rfl) (by kernel_rfl) (want_none rfl) (fun hc v => ex_move rfl (q129.e (j := 1) rfl)) rfl q129.z (by decide) (fun _ => rfl) (q129.k fun _ q130 => ?_);clear q129
    refine vg_takeW 28 true (.int .i64 ((j : Nat) : Int)) rfl (by kernel_rfl) (by kernel_rfl) (by kernel_rfl) (by kernel_rfl) (want_none rfl) (fun hc v => ex_move rfl (q130.e (j := 8) rfl)) rfl q130.z (by decide) (fun _ => rfl) (q130.k fun _ q131 => ?_);clear q130
    refine vg_takeW 29 true (.int .i64 ((4 * j : Nat) : Int)) rfl (by kernel_rfl) (by kernel_rfl) (by kernel_rfl) (by kernel_rfl) (want_none rfl) (fun hc v => ex_bin rfl rfl (q131.e (j := 53) rfl) (mulC9 _ _ 4 j (by omega) _)) rfl q131.z (by decide) (fun _ => rfl) (q131.k fun _ q132 => ?_);clear q131
    refine vg_takeW 30 true (.int .i64 ((4 * j + 3 : Nat) : Int)) rfl (by kernel_rfl) (by kernel_rfl) (by kernel_rfl) (by kernel_rfl) (want_none rfl) (fun hc v => ex_bin rfl (q132.e (j := 54) rfl) rfl (addC9 _ _ (4 * j) 3 (by omega) _)) rfl q132.z (by decide) (fun _ => rfl) (q132.k fun _ q133 => ?_);clear q132
    refine vg_takeW 31 true (.pointer (some ⟨qb, (ob + (4 * j + 3)), none⟩)) rfl (by kernel_rfl) (by kernel_rfl) (by kernel_rfl) (by kernel_rfl) (want_none rfl) (fun hc v => ex_ix rfl (q133.e (j := 52) rfl) (q133.e (j := 55) rfl) (ixB9 qb ob 64 c1 (4 * j + 3) (by omega) _)) rfl q133.z (by decide) (fun _ => rfl) (q133.k fun _ q134 => ?_);clear q133
    refine vg_take 32 true (.int .u8 (b.getD (4 * j + 3) 0)) rfl (by kernel_rfl) (by kernel_rfl) (by kernel_rfl) (by kernel_rfl) (by kernel_rfl) (by kernel_rfl) (want_none rfl) (fun hc v hv => by subst hv; exact ex_ld rfl (q134.e (j := 56) rfl) (ld8 (cb (4 * j + 3) (by omega)))) rfl q134.z (by decide) rfl (q134.k fun _ q135 => ?_);clear q134
    refine vg_takeW 33 true (.int .u32 (IntKind.u32.wrap (b.getD (4 * j + 3) 0))) rfl (by kernel_rfl) (by kernel_rfl) (by kernel_rfl) (by kernel_rfl) (want_none rfl) (fun hc v => ex_cv19 rfl (q135.e (j := 57) rfl) (cv8_32 _ _)) rfl q135.z (by decide) (fun _ => rfl) (q135.k fun _ q136 => ?_);clear q135
    refine vg_takeW 34 true (.int .u32 (wqF b j)) rfl (by kernel_rfl) (by kernel_rfl) (by kernel_rfl) (by kernel_rfl) (want_none rfl) (fun hc v => ex_bin rfl (q136.e (j := 51) rfl) (q136.e (j := 58) rfl) (orU _ _ _ _ _)) rfl q136.z (by decide) (fun _ => rfl) (q136.k fun _ q137 => ?_);clear q136
    refine vg_takeW 35 true (.pointer (some ⟨w.heap.size, j, none⟩)) rfl (by kernel_rfl) (by kernel_rfl) (by kernel_rfl) (by kernel_rfl) (want_none rfl) (fun hc v => ex_ix rfl (q137.e (j := 25) rfl) (q137.e (j := 26) rfl) (ixU0 w.heap.size 64 64 j (by omega) _)) rfl q137.z (by decide) (fun _ => rfl) (q137.k fun _ q138 => ?_);clear q137
    obtain ⟨d2, hd2⟩ : ∃ z, z = d.setCell ⟨w.heap.size, j, none⟩ (.int .u32 (wqF b j)) := ⟨_, rfl⟩
    refine vg_store 36 d2 rfl (by kernel_rfl) (by kernel_rfl) (want_none rfl) (ex_st rfl (q138.e (j := 60) rfl) (q138.e (j := 59) rfl) (by rw [hd2]; exact stU cj (B1d.free _))) rfl ?_
    have B2 : BB d2 w.heap.size 103 ((wA b (j + 1)).map uV) := by rw [hd2]; exact B1d.setu _ _
    have be : Below w.heap.size w d2 := by rw [hd2]; exact bd.trans (bel_ge (upd1 _ _ _ _) bd.size (Nat.le_refl _))
    clear hd2
    refine vg_done (by kernel_rfl) ?_
    have q139 := ((((((Rp.nil q138.z).cons (q138.a 0 rfl)).cons (q138.a 1 rfl)).cons (q138.a 2 rfl)).cons (q138.a 7 rfl)).cons (q138.a 8 rfl))
    clear q138
    go_upto_region 4 with fail
    refine wp_region_lit ?_
    refine q139.t (.int .i64 ((j : Nat) : Int)) (ex_move rfl (q139.e (j := 8) rfl)) fun _ q140 => ?_;clear q139
    refine q140.t (.int .i64 ((j + 1 : Nat) : Int)) (ex_bin rfl (q140.e (j := 23) rfl) rfl (add1C _ _ j (by omega) _)) fun _ q141 => ?_;clear q140
    refine q141.t (.int .i64 ((j + 1 : Nat) : Int)) (ex_assign rfl (q141.e (j := 24) rfl)) fun _ q142 => ?_;clear q141
    have q143 := ((((((Rp.nil q142.z).cons (q142.a 0 rfl)).cons (q142.a 1 rfl)).cons (q142.a 2 rfl)).cons (q142.a 7 rfl)).cons (q142.a 8 rfl))
    clear q142
    refine wpList_nil ?_
    exact ⟨_, rfl, hit, q143, B2, be⟩
  · obtain rfl : j = 16 := by omega
    rw [wA_16 b hby] at B1
    go_upto_region 3 with fail
    refine wp_region_lit ?_
    refine q100.t (.int .i64 ((16 : Nat) : Int)) (ex_move rfl (q100.e (j := 8) rfl)) fun _ q101 => ?_;clear q100
    refine q101.t (.bool false) (ex_bin rfl (q101.e (j := 21) rfl) rfl (ltF _ _ hit _)) fun _ q102 => ?_;clear q101
    refine wpList_nil ?_
    go_upto_region 6 with fail
    refine wp_cond_false (q102.e (j := 22) rfl) ?_
    go_upto_region 6 with fail
    refine wp_region_lit ?_
    refine q102.t (.int .i64 ((0 + 16 : Nat) : Int)) (ex_assign rfl rfl) fun _ q103 => ?_;clear q102
    have q104 := ((((((Rp.nil q103.z).cons (q103.a 0 rfl)).cons (q103.a 1 rfl)).cons (q103.a 2 rfl)).cons (q103.a 7 rfl)).cons (q103.a 9 rfl))
    clear q103
    refine wpList_nil ?_
    go_upto_region 7 with fail
    refine v_loopO 9 48 16 (fun j T wr => Rp T 232 [(9, gw true (.int .i64 ((j + 16 : Nat) : Int))), (7, gw true (.slice (some ⟨w.heap.size, 0, none⟩) 64 64)), (2, gw true (.slice a2 64 c2)), (1, gw true (.slice a1 64 c1)), (0, gw true (.slice a 8 c))] ∧ Hid (BB wr w.heap.size 103 ((wT b j).map uV) ∧ Below w.heap.size w wr)) (fun j T w h => h.1.a 9 rfl) ⟨q104, B1, br⟩ ?_
    clear q104 B1 br zr hit hj
    intro j T wr hj hh
    obtain ⟨q100, HJ⟩ := hh
    obtain ⟨B1, br⟩ := HJ.out
    clear HJ
    have zr := br.size
    have hl := wT_len b j
    by_cases hit : j < 48
    · go_upto_region 7 with fail
      refine wp_region_lit ?_
      refine q100.t (.int .i64 ((j + 16 : Nat) : Int)) (ex_move rfl (q100.e (j := 9) rfl)) fun _ q101 => ?_;clear q100
      refine q101.t (.bool true) (ex_bin rfl (q101.e (j := 61) rfl) rfl (ltT _ _ (show j + 16 < 64 by omega) _)) fun _ q102 => ?_;clear q101
      refine wpList_nil ?_
      go_upto_region 9 with fail
      refine wp_cond_true (q102.e (j := 62) rfl) ?_
      go_upto_region 9 with fail
      refine wp_region_lit ?_
      refine q102.t (.slice (some ⟨w.heap.size, 0, none⟩) 64 64) (ex_move rfl (q102.e (j := 7) rfl)) fun _ q103 => ?_;clear q102
      refine q103.t (.int .i64 ((j + 16 : Nat) : Int)) (ex_move rfl (q103.e (j := 9) rfl)) fun _ q104 => ?_;clear q103
      refine q104.t (.int .i64 ((j + 16 - 15 : Nat) : Int)) (ex_bin rfl (q104.e (j := 66) rfl) rfl (subC9 _ _ (j + 16) 15 (by omega) (by omega) _)) fun _ q105 => ?_;clear q104
      refine q105.t (.pointer (some ⟨w.heap.size, (j + 16 - 15), none⟩)) (ex_ix rfl (q105.e (j := 65) rfl) (q105.e (j := 67) rfl) (ixU0 w.heap.size 64 64 (j + 16 - 15) (by omega) _)) fun _ q106 => ?_;clear q105
      refine q106.t (.int .u32 ((wT b j).getD (j + 16 - 15) 0)) (ex_ld rfl (q106.e (j := 68) rfl) (ldU (B1.u9 (by omega)))) fun _ q107 => ?_;clear q106
      refine q107.t (.int .u32 ((wT b j).getD (j + 16 - 15) 0)) (ex_assign rfl (q107.e (j := 69) rfl)) fun _ q108 => ?_;clear q107
      refine wpList_nil ?_
      go_upto_region 10 with fail
      refine wp_region_lit ?_
      refine q108.t (.slice (some ⟨w.heap.size, 0, none⟩) 64 64) (ex_move rfl (q108.e (j := 7) rfl)) fun _ q109 => ?_;clear q108
      refine q109.t (.int .i64 ((j + 16 : Nat) : Int)) (ex_move rfl (q109.e (j := 9) rfl)) fun _ q110 => ?_;clear q109
      refine q110.t (.int .i64 ((j + 16 - 2 : Nat) : Int)) (ex_bin rfl (q110.e (j := 71) rfl) rfl (subC9 _ _ (j + 16) 2 (by omega) (by omega) _)) fun _ q111 => ?_;clear q110
      refine q111.t (.pointer (some ⟨w.heap.size, (j + 16 - 2), none⟩)) (ex_ix rfl (q111.e (j := 70) rfl) (q111.e (j := 72) rfl) (ixU0 w.heap.size 64 64 (j + 16 - 2) (by omega) _)) fun _ q112 => ?_;clear q111
      refine q112.t (.int .u32 ((wT b j).getD (j + 16 - 2) 0)) (ex_ld rfl (q112.e (j := 73) rfl) (ldU (B1.u9 (by omega)))) fun _ q113 => ?_;clear q112
      refine q113.t (.int .u32 ((wT b j).getD (j + 16 - 2) 0)) (ex_assign rfl (q113.e (j := 74) rfl)) fun _ q114 => ?_;clear q113
      refine wpList_nil ?_
      have q115 := ((((((((Rp.nil q114.z).cons (q114.a 0 rfl)).cons (q114.a 1 rfl)).cons (q114.a 2 rfl)).cons (q114.a 7 rfl)).cons (q114.a 9 rfl)).cons (q114.a 10 rfl)).cons (q114.a 11 rfl))
      clear q114
      obtain ⟨x, hx⟩ : ∃ x, x = (wT b j).getD (j + 16 - 15) 0 := ⟨_, rfl⟩
      obtain ⟨y, hy⟩ : ∃ y, y = (wT b j).getD (j + 16 - 2) 0 := ⟨_, rfl⟩
      rw [← hx, ← hy] at q115
      go_upto_region 11 with fail
      refine vg_start (fun k => k == 32) (fun v => v = wr.drew) (by kernel_rfl) ?_
      have hd : Below wr.heap.size wr wr.drew := (Below.refl _ _).drew
      have hzd : wr.drew.heap.size = wr.heap.size := rfl
      generalize wr.drew = d at *
      have B1d := B1.later hd
      have bd : Below w.heap.size w d := br.trans (hd.mono zr)
      have c16 := B1d.u9 (j := j + 16 - 16) (by omega)
      have c7 := B1d.u9 (j := j + 16 - 7) (by omega)
      have cj := B1d.u9 (j := j + 16) (by omega)
      refine vg_takeW 0 true (.slice (some ⟨w.heap.size, 0, none⟩) 64 64) rfl (by kernel_rfl) (by kernel_rfl) (by kernel_rfl) (by kernel_rfl) (want_none rfl) (fun hc v => ex_move rfl (q115.e (j := 7) rfl)) rfl q115.z (by decide) (fun _ => rfl) (q115.k fun _ q116 => ?_);clear q115
      refine vg_takeW 1 true (.int .i64 ((j + 16 : Nat) : Int)) rfl (by kernel_rfl) (by kernel_rfl) (by kernel_rfl) (by kernel_rfl) (want_none rfl) (fun hc v => ex_move rfl (q116.e (j := 9) rfl)) rfl q116.z (by decide) (fun _ => rfl) (q116.k fun _ q117 => ?_);clear q116
      refine vg_takeW 2 true (.slice (some ⟨w.heap.size, 0, none⟩) 64 64) rfl (by kernel_rfl) (by kernel_rfl) (by kernel_rfl) (by kernel_rfl) (want_none rfl) (fun hc v => ex_move rfl (q117.e (j := 7) rfl)) rfl q117.z (by decide) (fun _ => rfl) (q117.k fun _ q118 => ?_);clear q117
      refine vg_takeW 3 true (.int .i64 ((j + 16 : Nat) : Int)) rfl (by kernel_rfl) (by kernel_rfl) (by kernel_rfl) (by kernel_rfl) (want_none rfl) (fun hc v => ex_move rfl (q118.e (j := 9) rfl)) rfl q118.z (by decide) (fun _ => rfl) (q118.k fun _ q119 => ?_);clear q118
      refine vg_takeW 4 true (.int .i64 ((j + 16 - 16 : Nat) : Int)) rfl (by kernel_rfl) (by kernel_rfl) (by kernel_rfl) (by kernel_rfl) (want_none rfl) (fun hc v => ex_bin rfl (q119.e (j := 78) rfl) rfl (subC9 _ _ (j + 16) 16 (by omega) (by omega) _)) rfl q119.z (by decide) (fun _ => rfl) (q119.k fun _ q120 => ?_);clear q119
      refine vg_takeW 5 true (.pointer (some ⟨w.heap.size, (j + 16 - 16), none⟩)) rfl (by kernel_rfl) (by kernel_rfl) (by kernel_rfl) (by kernel_rfl) (want_none rfl) (fun hc v => ex_ix rfl (q120.e (j := 77) rfl) (q120.e (j := 79) rfl) (ixU0 w.heap.size 64 64 (j + 16 - 16) (by omega) _)) rfl q120.z (by decide) (fun _ => rfl) (q120.k fun _ q121 => ?_);clear q120
      refine vg_take 6 true (.int .u32 ((wT b j).getD (j + 16 - 16) 0)) rfl (by kernel_rfl) (by kernel_rfl) (by kernel_rfl) (by kernel_rfl) (by kernel_rfl) (by kernel_rfl) (want_none rfl) (fun hc v hv => by subst hv; exact ex_ld rfl (q121.e (j := 80) rfl) (ldU c16)) rfl q121.z (by decide) rfl (q121.k fun _ q122 => ?_);clear q121
      refine vg_takeW 16 true (.slice (some ⟨w.heap.size, 0, none⟩) 64 64) rfl (by kernel_rfl) (by kernel_rfl) (by kernel_rfl) (by kernel_rfl) (want_none rfl) (fun hc v => ex_move rfl (q122.e (j := 7) rfl)) rfl q122.z (by decide) (fun _ => rfl) (q122.k fun _ q123 => ?_);clear q122
      refine vg_takeW 17 true (.int .i64 ((j + 16 : Nat) : Int)) rfl (by kernel_rfl) (by kernel_rfl) (by kernel_rfl) (by kernel_rfl) (want_none rfl) (fun hc v => ex_move rfl (q123.e (j := 9) rfl)) rfl q123.z (by decide) (fun _ => rfl) (q123.k fun _ q124 => ?_);clear q123
      refine vg_takeW 18 true (.int .i64 ((j + 16 - 7 : Nat) : Int)) rfl (by kernel_rfl) (by kernel_rfl) (by kernel_rfl) (by kernel_rfl) (want_none rfl) (fun hc v => ex_bin rfl (q124.e (j := 92) rfl) rfl (subC9 _ _ (j + 16) 7 (by omega) (by omega) _)) rfl q124.z (by decide) (fun _ => rfl) (q124.k fun _ q125 => ?_);clear q124
      refine vg_takeW 19 true (.pointer (some ⟨w.heap.size, (j + 16 - 7), none⟩)) rfl (by kernel_rfl) (by kernel_rfl) (by kernel_rfl) (by kernel_rfl) (want_none rfl) (fun hc v => ex_ix rfl (q125.e (j := 91) rfl) (q125.e (j := 93) rfl) (ixU0 w.heap.size 64 64 (j + 16 - 7) (by omega) _)) rfl q125.z (by decide) (fun _ => rfl) (q125.k fun _ q126 => ?_);clear q125
      refine vg_take 20 true (.int .u32 ((wT b j).getD (j + 16 - 7) 0)) rfl (by kernel_rfl) (by kernel_rfl) (by kernel_rfl) (by kernel_rfl) (by kernel_rfl) (by kernel_rfl) (want_none rfl) (fun hc v hv => by subst hv; exact ex_ld rfl (q126.e (j := 94) rfl) (ldU c7)) rfl q126.z (by decide) rfl (q126.k fun _ q127 => ?_);clear q126
      refine vg_takeW 7 true (.int .u32 (x)) rfl (by kernel_rfl) (by kernel_rfl) (by kernel_rfl) (by kernel_rfl) (want_none rfl) (fun hc v => ex_move rfl (q127.e (j := 10) rfl)) rfl q127.z (by decide) (fun _ => rfl) (q127.k fun _ q128 => ?_);clear q127
      refine vg_takeW 9 true (.int .u32 (x)) rfl (by kernel_rfl) (by kernel_rfl) (by kernel_rfl) (by kernel_rfl) (want_none rfl) (fun hc v => ex_move rfl (q128.e (j := 10) rfl)) rfl q128.z (by decide) (fun _ => rfl) (q128.k fun _ q129 => ?_);clear q128
      refine vg_takeW 12 true (.int .u32 (x)) rfl (by kernel_rfl) (by kernel_rfl) (by kernel_rfl) (by kernel_rfl) (want_none rfl) (fun hc v => ex_move rfl (q129.e (j := 10) rfl)) rfl q129.z (by decide) (fun _ => rfl) (q129.k fun _ q130 => ?_);clear q129
      refine vg_takeW 22 true (.int .u32 (y)) rfl (by kernel_rfl) (by kernel_rfl) (by kernel_rfl) (by kernel_rfl) (want_none rfl) (fun hc v => ex_move rfl (q130.e (j := 11) rfl)) rfl q130.z (by decide) (fun _ => rfl) (q130.k fun _ q131 => ?_);clear q130
      refine vg_takeW 24 true (.int .u32 (y)) rfl (by kernel_rfl) (by kernel_rfl) (by kernel_rfl) (by kernel_rfl) (want_none rfl) (fun hc v => ex_move rfl (q131.e (j := 11) rfl)) rfl q131.z (by decide) (fun _ => rfl) (q131.k fun _ q132 => ?_);clear q131
      refine vg_takeW 27 true (.int .u32 (y)) rfl (by kernel_rfl) (by kernel_rfl) (by kernel_rfl) (by kernel_rfl) (want_none rfl) (fun hc v => ex_move rfl (q132.e (j := 11) rfl)) rfl q132.z (by decide) (fun _ => rfl) (q132.k fun _ q133 => ?_);clear q132
      refine vg_takeW 13 true (.int .u32 (x / 2 ^ 3)) rfl (by kernel_rfl) (by kernel_rfl) (by kernel_rfl) (by kernel_rfl) (want_none rfl) (fun hc v => ex_bin rfl (q133.e (j := 87) rfl) rfl (shrUu64 _ _ _ 3 (by decide) _)) rfl q133.z (by decide) (fun _ => rfl) (q133.k fun _ q134 => ?_);clear q133
      refine vg_takeW 28 true (.int .u32 (y / 2 ^ 10)) rfl (by kernel_rfl) (by kernel_rfl) (by kernel_rfl) (by kernel_rfl) (want_none rfl) (fun hc v => ex_bin rfl (q134.e (j := 102) rfl) rfl (shrUu64 _ _ _ 10 (by decide) _)) rfl q134.z (by decide) (fun _ => rfl) (q134.k fun _ q135 => ?_);clear q134
      refine vg_call 8 rfl (by kernel_rfl) (want_none rfl) (ex_call rfl (by simp only [List.map_toArray, List.map_cons, List.map_nil, (q135.e (j := 82) rfl), evc] <;> rfl) rfl) (rror_any x 7 (by decide) d) rfl q135.z (by decide) ?_
      rintro e d ⟨rfl, rfl⟩
      refine ⟨_, rfl, rfl, q135.k fun _ q136 => ?_⟩;clear q135
      refine vg_call 10 rfl (by kernel_rfl) (want_none rfl) (ex_call rfl (by simp only [List.map_toArray, List.map_cons, List.map_nil, (q136.e (j := 84) rfl), evc] <;> rfl) rfl) (rror_any x 18 (by decide) d) rfl q136.z (by decide) ?_
      rintro e d ⟨rfl, rfl⟩
      refine ⟨_, rfl, rfl, q136.k fun _ q137 => ?_⟩;clear q136
      refine vg_takeW 11 true (.int .u32 (xo (ror9 x 7) (ror9 x 18))) rfl (by kernel_rfl) (by kernel_rfl) (by kernel_rfl) (by kernel_rfl) (want_none rfl) (fun hc v => ex_bin rfl (q137.e (j := 83) rfl) (q137.e (j := 85) rfl) (xorU _ _ _ _ _)) rfl q137.z (by decide) (fun _ => rfl) (q137.k fun _ q138 => ?_);clear q137
      refine vg_takeW 14 true (.int .u32 (s09 x)) rfl (by kernel_rfl) (by kernel_rfl) (by kernel_rfl) (by kernel_rfl) (want_none rfl) (fun hc v => ex_bin rfl (q138.e (j := 86) rfl) (q138.e (j := 88) rfl) (xorU _ _ _ _ _)) rfl q138.z (by decide) (fun _ => rfl) (q138.k fun _ q139 => ?_);clear q138
      refine vg_takeW 15 true (.int .u32 (ad ((wT b j).getD (j + 16 - 16) 0) (s09 x))) rfl (by kernel_rfl) (by kernel_rfl) (by kernel_rfl) (by kernel_rfl) (want_none rfl) (fun hc v => ex_bin rfl (q139.e (j := 81) rfl) (q139.e (j := 89) rfl) (addU _ _ _ _ _)) rfl q139.z (by decide) (fun _ => rfl) (q139.k fun _ q140 => ?_);clear q139
      refine vg_takeW 21 true (.int .u32 (ad (ad ((wT b j).getD (j + 16 - 16) 0) (s09 x)) ((wT b j).getD (j + 16 - 7) 0))) rfl (by kernel_rfl) (by kernel_rfl) (by kernel_rfl) (by kernel_rfl) (want_none rfl) (fun hc v => ex_bin rfl (q140.e (j := 90) rfl) (q140.e (j := 95) rfl) (addU _ _ _ _ _)) rfl q140.z (by decide) (fun _ => rfl) (q140.k fun _ q141 => ?_);clear q140
      refine vg_call 23 rfl (by kernel_rfl) (want_none rfl) (ex_call rfl (by simp only [List.map_toArray, List.map_cons, List.map_nil, (q141.e (j := 97) rfl), evc] <;> rfl) rfl) (rror_any y 17 (by decide) d) rfl q141.z (by decide) ?_
      rintro e d ⟨rfl, rfl⟩
      refine ⟨_, rfl, rfl, q141.k fun _ q142 => ?_⟩;clear q141
      refine vg_call 25 rfl (by kernel_rfl) (want_none rfl) (ex_call rfl (by simp only [List.map_toArray, List.map_cons, List.map_nil, (q142.e (j := 99) rfl), evc] <;> rfl) rfl) (rror_any y 19 (by decide) d) rfl q142.z (by decide) ?_
      rintro e d ⟨rfl, rfl⟩
      refine ⟨_, rfl, rfl, q142.k fun _ q143 => ?_⟩;clear q142
      refine vg_takeW 26 true (.int .u32 (xo (ror9 y 17) (ror9 y 19))) rfl (by kernel_rfl) (by kernel_rfl) (by kernel_rfl) (by kernel_rfl) (want_none rfl) (fun hc v => ex_bin rfl (q143.e (j := 98) rfl) (q143.e (j := 100) rfl) (xorU _ _ _ _ _)) rfl q143.z (by decide) (fun _ => rfl) (q143.k fun _ q144 => ?_);clear q143
      refine vg_takeW 29 true (.int .u32 (s19 y)) rfl (by kernel_rfl) (by kernel_rfl) (by kernel_rfl) (by kernel_rfl) (want_none rfl) (fun hc v => ex_bin rfl (q144.e (j := 101) rfl) (q144.e (j := 103) rfl) (xorU _ _ _ _ _)) rfl q144.z (by decide) (fun _ => rfl) (q144.k fun _ q145 => ?_);clear q144
      refine vg_takeW 30 true (.int .u32 (ad (ad (ad ((wT b j).getD (j + 16 - 16) 0) (s09 x)) ((wT b j).getD (j + 16 - 7) 0)) (s19 y))) rfl (by kernel_rfl) (by kernel_rfl) (by kernel_rfl) (by kernel_rfl) (want_none rfl) (fun hc v => ex_bin rfl (q145.e (j := 96) rfl) (q145.e (j := 104) rfl) (addU _ _ _ _ _)) rfl q145.z (by decide) (fun _ => rfl) (q145.k fun _ q146 => ?_);clear q145
      refine vg_takeW 31 true (.pointer (some ⟨w.heap.size, (j + 16), none⟩)) rfl (by kernel_rfl) (by kernel_rfl) (by kernel_rfl) (by kernel_rfl) (want_none rfl) (fun hc v => ex_ix rfl (q146.e (j := 75) rfl) (q146.e (j := 76) rfl) (ixU0 w.heap.size 64 64 (j + 16) (by omega) _)) rfl q146.z (by decide) (fun _ => rfl) (q146.k fun _ q147 => ?_);clear q146
      obtain ⟨d2, hd2⟩ : ∃ z, z = d.setCell ⟨w.heap.size, j + 16, none⟩ (.int .u32 (ad (ad (ad ((wT b j).getD (j + 16 - 16) 0) (s09 x)) ((wT b j).getD (j + 16 - 7) 0)) (s19 y))) := ⟨_, rfl⟩
      refine vg_store 32 d2 rfl (by kernel_rfl) (by kernel_rfl) (want_none rfl) (ex_st rfl (q147.e (j := 106) rfl) (q147.e (j := 105) rfl) (by rw [hd2]; exact stU cj (B1d.free _))) rfl ?_
      have B2 : BB d2 w.heap.size 103 ((wT b (j + 1)).map uV) := by rw [hd2]; subst hx hy; exact B1d.setu _ _
      have be : Below w.heap.size w d2 := by rw [hd2]; exact bd.trans (bel_ge (upd1 _ _ _ _) bd.size (Nat.le_refl _))
      clear hd2
      refine vg_done (by kernel_rfl) ?_
      have q148 := ((((((Rp.nil q147.z).cons (q147.a 0 rfl)).cons (q147.a 1 rfl)).cons (q147.a 2 rfl)).cons (q147.a 7 rfl)).cons (q147.a 9 rfl))
      clear q147
      go_upto_region 8 with fail
      refine wp_region_lit ?_
      refine q148.t (.int .i64 ((j + 16 : Nat) : Int)) (ex_move rfl (q148.e (j := 9) rfl)) fun _ q149 => ?_;clear q148
      refine q149.t (.int .i64 ((j + 16 + 1 : Nat) : Int)) (ex_bin rfl (q149.e (j := 63) rfl) rfl (add1C _ _ (j + 16) (by omega) _)) fun _ q150 => ?_;clear q149
      rw [show j + 16 + 1 = j + 1 + 16 by omega] at q150
      refine q150.t (.int .i64 ((j + 1 + 16 : Nat) : Int)) (ex_assign rfl (q150.e (j := 64) rfl)) fun _ q151 => ?_;clear q150
      have q152 := ((((((Rp.nil q151.z).cons (q151.a 0 rfl)).cons (q151.a 1 rfl)).cons (q151.a 2 rfl)).cons (q151.a 7 rfl)).cons (q151.a 9 rfl))
      clear q151
      refine wpList_nil ?_
      exact ⟨_, rfl, hit, q152, B2, be⟩
    · obtain rfl : j = 48 := by omega
      have B1 : BB wr w.heap.size 103 ((wrds b).map uV) := B1
      go_upto_region 7 with fail
      refine wp_region_lit ?_
      refine q100.t (.int .i64 ((48 + 16 : Nat) : Int)) (ex_move rfl (q100.e (j := 9) rfl)) fun _ q101 => ?_;clear q100
      refine q101.t (.bool false) (ex_bin rfl (q101.e (j := 61) rfl) rfl (ltF _ _ (show ¬ 48 + 16 < 64 by omega) _)) fun _ q102 => ?_;clear q101
      refine wpList_nil ?_
      go_upto_region 12 with fail
      refine wp_cond_false (q102.e (j := 62) rfl) ?_
      go_upto_region 12 with fail
      refine wp_region_lit ?_
      obtain ⟨w2, hk2, Bv, b2⟩ := mku 8 (by decide) wr
      have B1 := B1.later b2
      have d2 : Below w.heap.size w w2 := br.trans (b2.mono zr)
      have z2 := d2.size
      obtain ⟨g, hg⟩ : ∃ g, g = wr.heap.size := ⟨_, rfl⟩
      rw [← hg] at hk2 Bv
      have hgw : w.heap.size < g := by have := B1.lt; have := b2.size; have hb1 := (BB.lt ‹BB wr w.heap.size _ _›); omega
      refine vw (.slice (some ⟨g, 0, none⟩) 8 8) w2 (want_none rfl) (ex_mk19 rfl rfl rfl hk2) rfl q102.z (by decide) (q102.k fun _ q103 => ?_);clear q102
      refine q103.t (.slice (some ⟨g, 0, none⟩) 8 8) (ex_assign rfl (q103.e (j := 107) rfl)) fun _ q104 => ?_;clear q103
      refine wpList_nil ?_
      go_upto_region 13 with fail
      refine wp_region_lit ?_
      refine q104.t (.int .i64 ((0 : Nat) : Int)) (ex_assign rfl rfl) fun _ q105 => ?_;clear q104
      have q106 := ((((((Rp.nil q105.z).cons (q105.a 0 rfl)).cons (q105.a 2 rfl)).cons (q105.a 7 rfl)).cons (q105.a 12 rfl)).cons (q105.a 13 rfl))
      clear q105
      refine wpList_nil ?_
      go_upto_region 14 with fail
      refine v_loop 13 8 (fun j T wr => Rp T 232 [(13, gw true (.int .i64 ((j : Nat) : Int))), (12, gw true (.slice (some ⟨g, 0, none⟩) 8 8)), (7, gw true (.slice (some ⟨w.heap.size, 0, none⟩) 64 64)), (2, gw true (.slice a2 64 c2)), (0, gw true (.slice a 8 c))] ∧ Hid (BB wr g 103 ((cpN s j).map uV) ∧ BB wr w.heap.size 103 ((wrds b).map uV) ∧ Below w.heap.size w wr)) (fun j T w h => h.1.a 13 rfl) ⟨q106, Bv, B1, d2⟩ ?_
      clear q106 Bv B1 d2 z2 b2 hk2 br zr hit hj hg
      intro j T wr hj hh
      obtain ⟨q100, HJ⟩ := hh
      obtain ⟨Bv, B1, br⟩ := HJ.out
      clear HJ
      have zr := br.size
      have hl := cpN_len s j
      by_cases hit : j < 8
      · have cj := Bv.u9 (j := j) (by omega)
        obtain ⟨qs, os, hqs, hqsl, hcs⟩ := (h.on br (Nat.le_refl _)).u9 (j := j) (by omega)
        go_upto_region 14 with fail
        refine wp_region_lit ?_
        refine q100.t (.int .i64 ((j : Nat) : Int)) (ex_move rfl (q100.e (j := 13) rfl)) fun _ q101 => ?_;clear q100
        refine q101.t (.bool true) (ex_bin rfl (q101.e (j := 108) rfl) rfl (ltT _ _ hit _)) fun _ q102 => ?_;clear q101
        refine wpList_nil ?_
        go_upto_region 16 with fail
        refine wp_cond_true (q102.e (j := 109) rfl) ?_
        go_upto_region 16 with fail
        refine wp_region_lit ?_
        refine q102.t (.slice (some ⟨g, 0, none⟩) 8 8) (ex_move rfl (q102.e (j := 12) rfl)) fun _ q103 => ?_;clear q102
        refine q103.t (.int .i64 ((j : Nat) : Int)) (ex_move rfl (q103.e (j := 13) rfl)) fun _ q104 => ?_;clear q103
        refine q104.t (.slice a 8 c) (ex_move rfl (q104.e (j := 0) rfl)) fun _ q105 => ?_;clear q104
        refine q105.t (.int .i64 ((j : Nat) : Int)) (ex_move rfl (q105.e (j := 13) rfl)) fun _ q106 => ?_;clear q105
        refine q106.t (.pointer (some ⟨qs, (os + j), none⟩)) (ex_ix rfl (q106.e (j := 114) rfl) (q106.e (j := 115) rfl) (by rw [hqs]; exact ixU qs os 8 c j hit _)) fun _ q107 => ?_;clear q106
        refine q107.t (.int .u32 (s.l.getD j 0)) (ex_ld rfl (q107.e (j := 116) rfl) (ldU hcs)) fun _ q108 => ?_;clear q107
        refine q108.t (.pointer (some ⟨g, j, none⟩)) (ex_ix rfl (q108.e (j := 112) rfl) (q108.e (j := 113) rfl) (ixU0 g 8 8 j hit _)) fun _ q109 => ?_;clear q108
        obtain ⟨d2, hd2⟩ : ∃ z, z = wr.setCell ⟨g, j, none⟩ (.int .u32 (s.l.getD j 0)) := ⟨_, rfl⟩
        refine vs d2 (want_none rfl) (ex_st rfl (q109.e (j := 118) rfl) (q109.e (j := 117) rfl) (by rw [hd2]; exact stU cj (Bv.free _))) rfl ?_
        have Bv2 : BB d2 g 103 ((cpN s (j + 1)).map uV) := by rw [hd2]; exact Bv.setu _ _
        have ue : Upd (fun k => k = g) wr d2 := by rw [hd2]; exact upd1 _ _ _ _
        have B2 := B1.upd ue (by omega)
        have be : Below w.heap.size w d2 := br.trans (bel_ge ue zr (by omega))
        clear hd2
        have q110 := ((((((Rp.nil q109.z).cons (q109.a 0 rfl)).cons (q109.a 2 rfl)).cons (q109.a 7 rfl)).cons (q109.a 12 rfl)).cons (q109.a 13 rfl))
        clear q109
        refine wpList_nil ?_
        go_upto_region 15 with fail
        refine wp_region_lit ?_
        refine q110.t (.int .i64 ((j : Nat) : Int)) (ex_move rfl (q110.e (j := 13) rfl)) fun _ q111 => ?_;clear q110
        refine q111.t (.int .i64 ((j + 1 : Nat) : Int)) (ex_bin rfl (q111.e (j := 110) rfl) rfl (add1C _ _ j (by omega) _)) fun _ q112 => ?_;clear q111
        refine q112.t (.int .i64 ((j + 1 : Nat) : Int)) (ex_assign rfl (q112.e (j := 111) rfl)) fun _ q113 => ?_;clear q112
        have q114 := ((((((Rp.nil q113.z).cons (q113.a 0 rfl)).cons (q113.a 2 rfl)).cons (q113.a 7 rfl)).cons (q113.a 12 rfl)).cons (q113.a 13 rfl))
        clear q113
        refine wpList_nil ?_
        exact ⟨_, rfl, hit, q114, Bv2, B2, be⟩
      · obtain rfl : j = 8 := by omega
        rw [cpN_8] at Bv
        go_upto_region 14 with fail
        refine wp_region_lit ?_
        refine q100.t (.int .i64 ((8 : Nat) : Int)) (ex_move rfl (q100.e (j := 13) rfl)) fun _ q101 => ?_;clear q100
        refine q101.t (.bool false) (ex_bin rfl (q101.e (j := 108) rfl) rfl (ltF _ _ hit _)) fun _ q102 => ?_;clear q101
        refine wpList_nil ?_
        go_upto_region 17 with fail
        refine wp_cond_false (q102.e (j := 109) rfl) ?_
        go_upto_region 17 with fail
        refine wp_region_lit ?_
        refine q102.t (.int .i64 ((0 : Nat) : Int)) (ex_assign rfl rfl) fun _ q103 => ?_;clear q102
        have q104 := ((((((Rp.nil q103.z).cons (q103.a 0 rfl)).cons (q103.a 2 rfl)).cons (q103.a 7 rfl)).cons (q103.a 12 rfl)).cons (q103.a 14 rfl))
        clear q103
        refine wpList_nil ?_
        go_upto_region 18 with fail
        refine v_loop 14 64 (fun j T wr => ∃ g, Rp T 232 [(14, gw true (.int .i64 ((j : Nat) : Int))), (12, gw true (.slice (some ⟨g, 0, none⟩) 8 8)), (7, gw true (.slice (some ⟨w.heap.size, 0, none⟩) 64 64)), (2, gw true (.slice a2 64 c2)), (0, gw true (.slice a 8 c))] ∧ Hid (w.heap.size < g ∧ BB wr g 103 ((rN kT9 (wrds b) s j).l.map uV) ∧ BB wr w.heap.size 103 ((wrds b).map uV) ∧ Below w.heap.size w wr)) (fun j T w h => by obtain ⟨g, h, _⟩ := h; exact h.a 14 rfl) ⟨g, q104, hgw, Bv, B1, br⟩ ?_
        clear q104 Bv B1 br zr hit hj hgw
        intro j T wr hj hh
        obtain ⟨g, q100, HJ⟩ := hh
        obtain ⟨hgw, Bv, B1, br⟩ := HJ.out
        clear HJ
        have zr := br.size
        have hwl : (wrds b).length = 64 := wT_len b 48
        by_cases hit : j < 64
        · obtain ⟨t, ht⟩ : ∃ t, t = (rN kT9 (wrds b) s j) := ⟨_, rfl⟩
          rw [← ht] at Bv
          go_upto_region 18 with fail
          refine wp_region_lit ?_
          refine q100.t (.int .i64 ((j : Nat) : Int)) (ex_move rfl (q100.e (j := 14) rfl)) fun _ q101 => ?_;clear q100
          refine q101.t (.bool true) (ex_bin rfl (q101.e (j := 119) rfl) rfl (ltT _ _ hit _)) fun _ q102 => ?_;clear q101
          refine wpList_nil ?_
          go_upto_region 20 with fail
          refine wp_cond_true (q102.e (j := 120) rfl) ?_
          go_upto_region 20 with fail
          refine wp_region_lit ?_
          refine q102.t (.slice (some ⟨g, 0, none⟩) 8 8) (ex_move rfl (q102.e (j := 12) rfl)) fun _ q103 => ?_;clear q102
          refine q103.t (.pointer (some ⟨g, 4, none⟩)) (ex_ix rfl (q103.e (j := 123) rfl) rfl (ixU0 g 8 8 4 (by decide) _)) fun _ q104 => ?_;clear q103
          refine q104.t (.int .u32 (t.e)) (ex_ld rfl (q104.e (j := 124) rfl) (ldU ((Bv.cell 4).trans rfl))) fun _ q105 => ?_;clear q104
          refine q105.t (.int .u32 (t.e)) (ex_assign rfl (q105.e (j := 125) rfl)) fun _ q106 => ?_;clear q105
          refine wpList_nil ?_
          go_upto_region 21 with fail
          refine wp_region_lit ?_
          refine q106.t (.slice (some ⟨g, 0, none⟩) 8 8) (ex_move rfl (q106.e (j := 12) rfl)) fun _ q107 => ?_;clear q106
          refine q107.t (.pointer (some ⟨g, 0, none⟩)) (ex_ix rfl (q107.e (j := 126) rfl) rfl (ixU0 g 8 8 0 (by decide) _)) fun _ q108 => ?_;clear q107
          refine q108.t (.int .u32 (t.a)) (ex_ld rfl (q108.e (j := 127) rfl) (ldU ((Bv.cell 0).trans rfl))) fun _ q109 => ?_;clear q108
          refine q109.t (.int .u32 (t.a)) (ex_assign rfl (q109.e (j := 128) rfl)) fun _ q110 => ?_;clear q109
          refine wpList_nil ?_
          have q111 := ((((((((Rp.nil q110.z).cons (q110.a 0 rfl)).cons (q110.a 2 rfl)).cons (q110.a 7 rfl)).cons (q110.a 12 rfl)).cons (q110.a 14 rfl)).cons (q110.a 15 rfl)).cons (q110.a 16 rfl))
          clear q110
          go_upto_region 22 with fail
          refine vq_start (C := fun v => v = wr.drew) (by kernel_rfl) (by kernel_rfl) rfl ?_
          have hd : Below wr.heap.size wr wr.drew := (Below.refl _ _).drew
          have hzd : wr.drew.heap.size = wr.heap.size := rfl
          generalize wr.drew = d at *
          have Bvd := Bv.later hd
          have B1d := B1.later hd
          have bd : Below w.heap.size w d := br.trans (hd.mono zr)
          obtain ⟨qk, ok, hqk, hqkl, hck⟩ := (h2.on bd (Nat.le_refl _)).u9 (j := j) (by omega)
          refine q111.q (.slice (some ⟨g, 0, none⟩) 8 8) (fun v hv => ex_move rfl (q111.e (j := 12) rfl)) fun _ q112 => ?_;clear q111
          refine q112.q (.pointer (some ⟨g, 7, none⟩)) (fun v hv => ex_ix rfl (q112.e (j := 129) rfl) rfl (ixU0 g 8 8 7 (by decide) _)) fun _ q113 => ?_;clear q112
          refine q113.q (.int .u32 (t.h)) (fun v hv => by subst hv; exact ex_ld rfl (q113.e (j := 130) rfl) (ldU ((Bvd.cell 7).trans rfl))) fun _ q114 => ?_;clear q113
          refine q114.q (.int .u32 (t.e)) (fun v hv => ex_move rfl (q114.e (j := 15) rfl)) fun _ q115 => ?_;clear q114
          refine vq_call18 (true) (.int .u32 (ror9 t.e 6)) (want_none rfl) (fun hc v hv => ex_call rfl (by simp only [List.map_toArray, List.map_cons, List.map_nil, (q115.e (j := 132) rfl), evc] <;> rfl) rfl) (fun hc v hv => (rror_any t.e 6 (by decide) v).mono fun e9 w9 h9 => ⟨h9.1, h9.2.trans hv⟩) rfl q115.z (by decide) (q115.k fun _ q116 => ?_);clear q115
          refine q116.q (.int .u32 (t.e)) (fun v hv => ex_move rfl (q116.e (j := 15) rfl)) fun _ q117 => ?_;clear q116
          refine vq_call18 (true) (.int .u32 (ror9 t.e 11)) (want_none rfl) (fun hc v hv => ex_call rfl (by simp only [List.map_toArray, List.map_cons, List.map_nil, (q117.e (j := 134) rfl), evc] <;> rfl) rfl) (fun hc v hv => (rror_any t.e 11 (by decide) v).mono fun e9 w9 h9 => ⟨h9.1, h9.2.trans hv⟩) rfl q117.z (by decide) (q117.k fun _ q118 => ?_);clear q117
          refine q118.q (.int .u32 (xo (ror9 t.e 6) (ror9 t.e 11))) (fun v hv => ex_bin rfl (q118.e (j := 133) rfl) (q118.e (j := 135) rfl) (xorU _ _ _ _ _)) fun _ q119 => ?_;clear q118
          refine q119.q (.int .u32 (t.e)) (fun v hv => ex_move rfl (q119.e (j := 15) rfl)) fun _ q120 => ?_;clear q119
          refine vq_call18 (true) (.int .u32 (ror9 t.e 25)) (want_none rfl) (fun hc v hv => ex_call rfl (by simp only [List.map_toArray, List.map_cons, List.map_nil, (q120.e (j := 137) rfl), evc] <;> rfl) rfl) (fun hc v hv => (rror_any t.e 25 (by decide) v).mono fun e9 w9 h9 => ⟨h9.1, h9.2.trans hv⟩) rfl q120.z (by decide) (q120.k fun _ q121 => ?_);clear q120
          refine q121.q (.int .u32 (xo (xo (ror9 t.e 6) (ror9 t.e 11)) (ror9 t.e 25))) (fun v hv => ex_bin rfl (q121.e (j := 136) rfl) (q121.e (j := 138) rfl) (xorU _ _ _ _ _)) fun _ q122 => ?_;clear q121
          refine q122.q (.int .u32 (ad t.h (xo (xo (ror9 t.e 6) (ror9 t.e 11)) (ror9 t.e 25)))) (fun v hv => ex_bin rfl (q122.e (j := 131) rfl) (q122.e (j := 139) rfl) (addU _ _ _ _ _)) fun _ q123 => ?_;clear q122
          refine q123.q (.int .u32 (t.e)) (fun v hv => ex_move rfl (q123.e (j := 15) rfl)) fun _ q124 => ?_;clear q123
          refine q124.q (.slice (some ⟨g, 0, none⟩) 8 8) (fun v hv => ex_move rfl (q124.e (j := 12) rfl)) fun _ q125 => ?_;clear q124
          refine q125.q (.pointer (some ⟨g, 5, none⟩)) (fun v hv => ex_ix rfl (q125.e (j := 142) rfl) rfl (ixU0 g 8 8 5 (by decide) _)) fun _ q126 => ?_;clear q125
          refine q126.q (.int .u32 (t.f)) (fun v hv => by subst hv; exact ex_ld rfl (q126.e (j := 143) rfl) (ldU ((Bvd.cell 5).trans rfl))) fun _ q127 => ?_;clear q126
          refine q127.q (.int .u32 (an t.e t.f)) (fun v hv => ex_bin rfl (q127.e (j := 141) rfl) (q127.e (j := 144) rfl) (andU _ _ _ _ _)) fun _ q128 => ?_;clear q127
          refine q128.q (.int .u32 (t.e)) (fun v hv => ex_move rfl (q128.e (j := 15) rfl)) fun _ q129 => ?_;clear q128
          refine q129.q (.int .u32 (nt t.e)) (fun v hv => ex_un19 rfl (q129.e (j := 146) rfl)) fun _ q130 => ?_;clear q129
          refine q130.q (.slice (some ⟨g, 0, none⟩) 8 8) (fun v hv => ex_move rfl (q130.e (j := 12) rfl)) fun _ q131 => ?_;clear q130
          refine q131.q (.pointer (some ⟨g, 6, none⟩)) (fun v hv => ex_ix rfl (q131.e (j := 148) rfl) rfl (ixU0 g 8 8 6 (by decide) _)) fun _ q132 => ?_;clear q131
          refine q132.q (.int .u32 (t.g)) (fun v hv => by subst hv; exact ex_ld rfl (q132.e (j := 149) rfl) (ldU ((Bvd.cell 6).trans rfl))) fun _ q133 => ?_;clear q132
          refine q133.q (.int .u32 (an (nt t.e) t.g)) (fun v hv => ex_bin rfl (q133.e (j := 147) rfl) (q133.e (j := 150) rfl) (andU _ _ _ _ _)) fun _ q134 => ?_;clear q133
          refine q134.q (.int .u32 (xo (an t.e t.f) (an (nt t.e) t.g))) (fun v hv => ex_bin rfl (q134.e (j := 145) rfl) (q134.e (j := 151) rfl) (xorU _ _ _ _ _)) fun _ q135 => ?_;clear q134
          refine q135.q (.int .u32 (ad (ad t.h (xo (xo (ror9 t.e 6) (ror9 t.e 11)) (ror9 t.e 25))) (xo (an t.e t.f) (an (nt t.e) t.g)))) (fun v hv => ex_bin rfl (q135.e (j := 140) rfl) (q135.e (j := 152) rfl) (addU _ _ _ _ _)) fun _ q136 => ?_;clear q135
          refine q136.q (.slice a2 64 c2) (fun v hv => ex_move rfl (q136.e (j := 2) rfl)) fun _ q137 => ?_;clear q136
          refine q137.q (.int .i64 ((j : Nat) : Int)) (fun v hv => ex_move rfl (q137.e (j := 14) rfl)) fun _ q138 => ?_;clear q137
          refine q138.q (.pointer (some ⟨qk, (ok + j), none⟩)) (fun v hv => ex_ix rfl (q138.e (j := 154) rfl) (q138.e (j := 155) rfl) (by rw [hqk]; exact ixU qk ok 64 c2 j hit _)) fun _ q139 => ?_;clear q138
          refine q139.q (.int .u32 (kT9.getD j 0)) (fun v hv => by subst hv; exact ex_ld rfl (q139.e (j := 156) rfl) (ldU hck)) fun _ q140 => ?_;clear q139
          refine q140.q (.int .u32 (ad (ad (ad t.h (xo (xo (ror9 t.e 6) (ror9 t.e 11)) (ror9 t.e 25))) (xo (an t.e t.f) (an (nt t.e) t.g))) (kT9.getD j 0))) (fun v hv => ex_bin rfl (q140.e (j := 153) rfl) (q140.e (j := 157) rfl) (addU _ _ _ _ _)) fun _ q141 => ?_;clear q140
          refine q141.q (.slice (some ⟨w.heap.size, 0, none⟩) 64 64) (fun v hv => ex_move rfl (q141.e (j := 7) rfl)) fun _ q142 => ?_;clear q141
          refine q142.q (.int .i64 ((j : Nat) : Int)) (fun v hv => ex_move rfl (q142.e (j := 14) rfl)) fun _ q143 => ?_;clear q142
          refine q143.q (.pointer (some ⟨w.heap.size, j, none⟩)) (fun v hv => ex_ix rfl (q143.e (j := 159) rfl) (q143.e (j := 160) rfl) (ixU0 w.heap.size 64 64 j hit _)) fun _ q144 => ?_;clear q143
          refine q144.q (.int .u32 ((wrds b).getD j 0)) (fun v hv => by subst hv; exact ex_ld rfl (q144.e (j := 161) rfl) (ldU (B1d.u9 (by omega)))) fun _ q145 => ?_;clear q144
          refine q145.q (.int .u32 (t19 t (kT9.getD j 0) ((wrds b).getD j 0))) (fun v hv => ex_bin rfl (q145.e (j := 158) rfl) (q145.e (j := 162) rfl) (addU _ _ _ _ _)) fun _ q146 => ?_;clear q145
          refine q146.q (.int .u32 (t19 t (kT9.getD j 0) ((wrds b).getD j 0))) (fun v hv => ex_assign rfl (q146.e (j := 163) rfl)) fun _ q147 => ?_;clear q146
          refine vq_nil (fun r1 hr1 => ?_)
          subst hr1
          have q148 := (((((((((Rp.nil q147.z).cons (q147.a 0 rfl)).cons (q147.a 2 rfl)).cons (q147.a 7 rfl)).cons (q147.a 12 rfl)).cons (q147.a 14 rfl)).cons (q147.a 15 rfl)).cons (q147.a 16 rfl)).cons (q147.a 17 rfl))
          clear q147
          obtain ⟨y1, hy1⟩ : ∃ y, y = t19 t (kT9.getD j 0) ((wrds b).getD j 0) := ⟨_, rfl⟩
          rw [← hy1] at q148
          have zd := bd.size
          go_upto_region 23 with fail
          refine vq_start (C := fun v => v = r1.drew) (by kernel_rfl) (by kernel_rfl) rfl ?_
          have he : Below r1.heap.size r1 r1.drew := (Below.refl _ _).drew
          have hze : r1.drew.heap.size = r1.heap.size := rfl
          generalize r1.drew = e at *
          have Bve := Bvd.later he
          have be : Below w.heap.size w e := bd.trans (he.mono zd)
          refine q148.q (.int .u32 (t.a)) (fun v hv => ex_move rfl (q148.e (j := 16) rfl)) fun _ q149 => ?_;clear q148
          refine vq_call18 (true) (.int .u32 (ror9 t.a 2)) (want_none rfl) (fun hc v hv => ex_call rfl (by simp only [List.map_toArray, List.map_cons, List.map_nil, (q149.e (j := 164) rfl), evc] <;> rfl) rfl) (fun hc v hv => (rror_any t.a 2 (by decide) v).mono fun e9 w9 h9 => ⟨h9.1, h9.2.trans hv⟩) rfl q149.z (by decide) (q149.k fun _ q150 => ?_);clear q149
          refine q150.q (.int .u32 (t.a)) (fun v hv => ex_move rfl (q150.e (j := 16) rfl)) fun _ q151 => ?_;clear q150
          refine vq_call18 (true) (.int .u32 (ror9 t.a 13)) (want_none rfl) (fun hc v hv => ex_call rfl (by simp only [List.map_toArray, List.map_cons, List.map_nil, (q151.e (j := 166) rfl), evc] <;> rfl) rfl) (fun hc v hv => (rror_any t.a 13 (by decide) v).mono fun e9 w9 h9 => ⟨h9.1, h9.2.trans hv⟩) rfl q151.z (by decide) (q151.k fun _ q152 => ?_);clear q151
          refine q152.q (.int .u32 (xo (ror9 t.a 2) (ror9 t.a 13))) (fun v hv => ex_bin rfl (q152.e (j := 165) rfl) (q152.e (j := 167) rfl) (xorU _ _ _ _ _)) fun _ q153 => ?_;clear q152
          refine q153.q (.int .u32 (t.a)) (fun v hv => ex_move rfl (q153.e (j := 16) rfl)) fun _ q154 => ?_;clear q153
          refine vq_call18 (true) (.int .u32 (ror9 t.a 22)) (want_none rfl) (fun hc v hv => ex_call rfl (by simp only [List.map_toArray, List.map_cons, List.map_nil, (q154.e (j := 169) rfl), evc] <;> rfl) rfl) (fun hc v hv => (rror_any t.a 22 (by decide) v).mono fun e9 w9 h9 => ⟨h9.1, h9.2.trans hv⟩) rfl q154.z (by decide) (q154.k fun _ q155 => ?_);clear q154
          refine q155.q (.int .u32 (xo (xo (ror9 t.a 2) (ror9 t.a 13)) (ror9 t.a 22))) (fun v hv => ex_bin rfl (q155.e (j := 168) rfl) (q155.e (j := 170) rfl) (xorU _ _ _ _ _)) fun _ q156 => ?_;clear q155
          refine q156.q (.int .u32 (t.a)) (fun v hv => ex_move rfl (q156.e (j := 16) rfl)) fun _ q157 => ?_;clear q156
          refine q157.q (.slice (some ⟨g, 0, none⟩) 8 8) (fun v hv => ex_move rfl (q157.e (j := 12) rfl)) fun _ q158 => ?_;clear q157
          refine q158.q (.pointer (some ⟨g, 1, none⟩)) (fun v hv => ex_ix rfl (q158.e (j := 173) rfl) rfl (ixU0 g 8 8 1 (by decide) _)) fun _ q159 => ?_;clear q158
          refine q159.q (.int .u32 (t.b)) (fun v hv => by subst hv; exact ex_ld rfl (q159.e (j := 174) rfl) (ldU ((Bve.cell 1).trans rfl))) fun _ q160 => ?_;clear q159
          refine q160.q (.int .u32 (an t.a t.b)) (fun v hv => ex_bin rfl (q160.e (j := 172) rfl) (q160.e (j := 175) rfl) (andU _ _ _ _ _)) fun _ q161 => ?_;clear q160
          refine q161.q (.int .u32 (t.a)) (fun v hv => ex_move rfl (q161.e (j := 16) rfl)) fun _ q162 => ?_;clear q161
          refine q162.q (.slice (some ⟨g, 0, none⟩) 8 8) (fun v hv => ex_move rfl (q162.e (j := 12) rfl)) fun _ q163 => ?_;clear q162
          refine q163.q (.pointer (some ⟨g, 2, none⟩)) (fun v hv => ex_ix rfl (q163.e (j := 178) rfl) rfl (ixU0 g 8 8 2 (by decide) _)) fun _ q164 => ?_;clear q163
          refine q164.q (.int .u32 (t.c)) (fun v hv => by subst hv; exact ex_ld rfl (q164.e (j := 179) rfl) (ldU ((Bve.cell 2).trans rfl))) fun _ q165 => ?_;clear q164
          refine q165.q (.int .u32 (an t.a t.c)) (fun v hv => ex_bin rfl (q165.e (j := 177) rfl) (q165.e (j := 180) rfl) (andU _ _ _ _ _)) fun _ q166 => ?_;clear q165
          refine q166.q (.int .u32 (xo (an t.a t.b) (an t.a t.c))) (fun v hv => ex_bin rfl (q166.e (j := 176) rfl) (q166.e (j := 181) rfl) (xorU _ _ _ _ _)) fun _ q167 => ?_;clear q166
          refine q167.q (.slice (some ⟨g, 0, none⟩) 8 8) (fun v hv => ex_move rfl (q167.e (j := 12) rfl)) fun _ q168 => ?_;clear q167
          refine q168.q (.pointer (some ⟨g, 1, none⟩)) (fun v hv => ex_ix rfl (q168.e (j := 183) rfl) rfl (ixU0 g 8 8 1 (by decide) _)) fun _ q169 => ?_;clear q168
          refine q169.q (.int .u32 (t.b)) (fun v hv => by subst hv; exact ex_ld rfl (q169.e (j := 184) rfl) (ldU ((Bve.cell 1).trans rfl))) fun _ q170 => ?_;clear q169
          refine q170.q (.slice (some ⟨g, 0, none⟩) 8 8) (fun v hv => ex_move rfl (q170.e (j := 12) rfl)) fun _ q171 => ?_;clear q170
          refine q171.q (.pointer (some ⟨g, 2, none⟩)) (fun v hv => ex_ix rfl (q171.e (j := 186) rfl) rfl (ixU0 g 8 8 2 (by decide) _)) fun _ q172 => ?_;clear q171
          refine q172.q (.int .u32 (t.c)) (fun v hv => by subst hv; exact ex_ld rfl (q172.e (j := 187) rfl) (ldU ((Bve.cell 2).trans rfl))) fun _ q173 => ?_;clear q172
          refine q173.q (.int .u32 (an t.b t.c)) (fun v hv => ex_bin rfl (q173.e (j := 185) rfl) (q173.e (j := 188) rfl) (andU _ _ _ _ _)) fun _ q174 => ?_;clear q173
          refine q174.q (.int .u32 (xo (xo (an t.a t.b) (an t.a t.c)) (an t.b t.c))) (fun v hv => ex_bin rfl (q174.e (j := 182) rfl) (q174.e (j := 189) rfl) (xorU _ _ _ _ _)) fun _ q175 => ?_;clear q174
          refine q175.q (.int .u32 (t29 t)) (fun v hv => ex_bin rfl (q175.e (j := 171) rfl) (q175.e (j := 190) rfl) (addU _ _ _ _ _)) fun _ q176 => ?_;clear q175
          refine q176.q (.int .u32 (t29 t)) (fun v hv => ex_assign rfl (q176.e (j := 191) rfl)) fun _ q177 => ?_;clear q176
          refine vq_nil (fun r2 hr2 => ?_)
          subst hr2
          have q178 := ((((((((((Rp.nil q177.z).cons (q177.a 0 rfl)).cons (q177.a 2 rfl)).cons (q177.a 7 rfl)).cons (q177.a 12 rfl)).cons (q177.a 14 rfl)).cons (q177.a 15 rfl)).cons (q177.a 16 rfl)).cons (q177.a 17 rfl)).cons (q177.a 18 rfl))
          clear q177
          go_upto_region 24 with fail
          refine vg_start (fun _ => false) (fun v => BB v g 103 (t.l.map uV)) (by kernel_rfl) ?_
          have hf : Below r2.heap.size r2 r2.drew := (Below.refl _ _).drew
          have hzf : r2.drew.heap.size = r2.heap.size := rfl
          generalize r2.drew = f at *
          have Bvf := Bve.later hf
          have bf : Below w.heap.size w f := be.trans (hf.mono be.size)
          have B1f := ((B1d.later he)).later hf
          refine vg_takeW 0 true (.int .u32 (y1)) rfl (by kernel_rfl) (by kernel_rfl) (by kernel_rfl) (by kernel_rfl) (want_none rfl) (fun hc v => ex_move rfl (q178.e (j := 17) rfl)) rfl q178.z (by decide) (fun _ => Bvf) (q178.k fun _ q179 => ?_);clear q178
          refine vg_takeW 1 true (.int .u32 (t29 t)) rfl (by kernel_rfl) (by kernel_rfl) (by kernel_rfl) (by kernel_rfl) (want_none rfl) (fun hc v => ex_move rfl (q179.e (j := 18) rfl)) rfl q179.z (by decide) (fun _ => Bvf) (q179.k fun _ q180 => ?_);clear q179
          refine vg_takeW 2 true (.int .u32 (ad y1 (t29 t))) rfl (by kernel_rfl) (by kernel_rfl) (by kernel_rfl) (by kernel_rfl) (want_none rfl) (fun hc v => ex_bin rfl (q180.e (j := 192) rfl) (q180.e (j := 193) rfl) (addU _ _ _ _ _)) rfl q180.z (by decide) (fun _ => Bvf) (q180.k fun _ q181 => ?_);clear q180
          refine vg_takeW 3 true (.int .u32 (t.a)) rfl (by kernel_rfl) (by kernel_rfl) (by kernel_rfl) (by kernel_rfl) (want_none rfl) (fun hc v => ex_move rfl (q181.e (j := 16) rfl)) rfl q181.z (by decide) (fun _ => Bvf) (q181.k fun _ q182 => ?_);clear q181
          refine vg_takeW 4 true (.slice (some ⟨g, 0, none⟩) 8 8) rfl (by kernel_rfl) (by kernel_rfl) (by kernel_rfl) (by kernel_rfl) (want_none rfl) (fun hc v => ex_move rfl (q182.e (j := 12) rfl)) rfl q182.z (by decide) (fun _ => Bvf) (q182.k fun _ q183 => ?_);clear q182
          refine vg_takeW 5 true (.pointer (some ⟨g, 1, none⟩)) rfl (by kernel_rfl) (by kernel_rfl) (by kernel_rfl) (by kernel_rfl) (want_none rfl) (fun hc v => ex_ix rfl (q183.e (j := 196) rfl) rfl (ixU0 g 8 8 1 (by decide) _)) rfl q183.z (by decide) (fun _ => Bvf) (q183.k fun _ q184 => ?_);clear q183
          refine vg_take 6 true (.int .u32 (t.b)) rfl (by kernel_rfl) (by kernel_rfl) (by kernel_rfl) (by kernel_rfl) (by kernel_rfl) (by kernel_rfl) (want_none rfl) (fun hc v hv => ex_ld rfl (q184.e (j := 197) rfl) (ldU ((hv.cell 1).trans rfl))) rfl q184.z (by decide) Bvf (q184.k fun _ q185 => ?_);clear q184
          refine vg_takeW 7 true (.slice (some ⟨g, 0, none⟩) 8 8) rfl (by kernel_rfl) (by kernel_rfl) (by kernel_rfl) (by kernel_rfl) (want_none rfl) (fun hc v => ex_move rfl (q185.e (j := 12) rfl)) rfl q185.z (by decide) (fun _ => Bvf) (q185.k fun _ q186 => ?_);clear q185
          refine vg_takeW 8 true (.pointer (some ⟨g, 2, none⟩)) rfl (by kernel_rfl) (by kernel_rfl) (by kernel_rfl) (by kernel_rfl) (want_none rfl) (fun hc v => ex_ix rfl (q186.e (j := 199) rfl) rfl (ixU0 g 8 8 2 (by decide) _)) rfl q186.z (by decide) (fun _ => Bvf) (q186.k fun _ q187 => ?_);clear q186
          refine vg_take 9 true (.int .u32 (t.c)) rfl (by kernel_rfl) (by kernel_rfl) (by kernel_rfl) (by kernel_rfl) (by kernel_rfl) (by kernel_rfl) (want_none rfl) (fun hc v hv => ex_ld rfl (q187.e (j := 200) rfl) (ldU ((hv.cell 2).trans rfl))) rfl q187.z (by decide) Bvf (q187.k fun _ q188 => ?_);clear q187
          refine vg_takeW 10 true (.slice (some ⟨g, 0, none⟩) 8 8) rfl (by kernel_rfl) (by kernel_rfl) (by kernel_rfl) (by kernel_rfl) (want_none rfl) (fun hc v => ex_move rfl (q188.e (j := 12) rfl)) rfl q188.z (by decide) (fun _ => Bvf) (q188.k fun _ q189 => ?_);clear q188
          refine vg_takeW 11 true (.pointer (some ⟨g, 3, none⟩)) rfl (by kernel_rfl) (by kernel_rfl) (by kernel_rfl) (by kernel_rfl) (want_none rfl) (fun hc v => ex_ix rfl (q189.e (j := 202) rfl) rfl (ixU0 g 8 8 3 (by decide) _)) rfl q189.z (by decide) (fun _ => Bvf) (q189.k fun _ q190 => ?_);clear q189
          refine vg_take 12 true (.int .u32 (t.d)) rfl (by kernel_rfl) (by kernel_rfl) (by kernel_rfl) (by kernel_rfl) (by kernel_rfl) (by kernel_rfl) (want_none rfl) (fun hc v hv => ex_ld rfl (q190.e (j := 203) rfl) (ldU ((hv.cell 3).trans rfl))) rfl q190.z (by decide) Bvf (q190.k fun _ q191 => ?_);clear q190
          refine vg_takeW 13 true (.int .u32 (y1)) rfl (by kernel_rfl) (by kernel_rfl) (by kernel_rfl) (by kernel_rfl) (want_none rfl) (fun hc v => ex_move rfl (q191.e (j := 17) rfl)) rfl q191.z (by decide) (fun _ => Bvf) (q191.k fun _ q192 => ?_);clear q191
          refine vg_takeW 14 true (.int .u32 (ad t.d y1)) rfl (by kernel_rfl) (by kernel_rfl) (by kernel_rfl) (by kernel_rfl) (want_none rfl) (fun hc v => ex_bin rfl (q192.e (j := 204) rfl) (q192.e (j := 205) rfl) (addU _ _ _ _ _)) rfl q192.z (by decide) (fun _ => Bvf) (q192.k fun _ q193 => ?_);clear q192
          refine vg_takeW 15 true (.int .u32 (t.e)) rfl (by kernel_rfl) (by kernel_rfl) (by kernel_rfl) (by kernel_rfl) (want_none rfl) (fun hc v => ex_move rfl (q193.e (j := 15) rfl)) rfl q193.z (by decide) (fun _ => Bvf) (q193.k fun _ q194 => ?_);clear q193
          refine vg_takeW 16 true (.slice (some ⟨g, 0, none⟩) 8 8) rfl (by kernel_rfl) (by kernel_rfl) (by kernel_rfl) (by kernel_rfl) (want_none rfl) (fun hc v => ex_move rfl (q194.e (j := 12) rfl)) rfl q194.z (by decide) (fun _ => Bvf) (q194.k fun _ q195 => ?_);clear q194
          refine vg_takeW 17 true (.pointer (some ⟨g, 5, none⟩)) rfl (by kernel_rfl) (by kernel_rfl) (by kernel_rfl) (by kernel_rfl) (want_none rfl) (fun hc v => ex_ix rfl (q195.e (j := 208) rfl) rfl (ixU0 g 8 8 5 (by decide) _)) rfl q195.z (by decide) (fun _ => Bvf) (q195.k fun _ q196 => ?_);clear q195
          refine vg_take 18 true (.int .u32 (t.f)) rfl (by kernel_rfl) (by kernel_rfl) (by kernel_rfl) (by kernel_rfl) (by kernel_rfl) (by kernel_rfl) (want_none rfl) (fun hc v hv => ex_ld rfl (q196.e (j := 209) rfl) (ldU ((hv.cell 5).trans rfl))) rfl q196.z (by decide) Bvf (q196.k fun _ q197 => ?_);clear q196
          refine vg_takeW 19 true (.slice (some ⟨g, 0, none⟩) 8 8) rfl (by kernel_rfl) (by kernel_rfl) (by kernel_rfl) (by kernel_rfl) (want_none rfl) (fun hc v => ex_move rfl (q197.e (j := 12) rfl)) rfl q197.z (by decide) (fun _ => Bvf) (q197.k fun _ q198 => ?_);clear q197
          refine vg_takeW 20 true (.pointer (some ⟨g, 6, none⟩)) rfl (by kernel_rfl) (by kernel_rfl) (by kernel_rfl) (by kernel_rfl) (want_none rfl) (fun hc v => ex_ix rfl (q198.e (j := 211) rfl) rfl (ixU0 g 8 8 6 (by decide) _)) rfl q198.z (by decide) (fun _ => Bvf) (q198.k fun _ q199 => ?_);clear q198
          refine vg_take 21 true (.int .u32 (t.g)) rfl (by kernel_rfl) (by kernel_rfl) (by kernel_rfl) (by kernel_rfl) (by kernel_rfl) (by kernel_rfl) (want_none rfl) (fun hc v hv => ex_ld rfl (q199.e (j := 212) rfl) (ldU ((hv.cell 6).trans rfl))) rfl q199.z (by decide) Bvf (q199.k fun _ q200 => ?_);clear q199
          obtain ⟨f2, hf2⟩ : ∃ z, z = f.alloc (.cells ((⟨ad y1 (t29 t), t.a, t.b, t.c, ad t.d y1, t.e, t.f, t.g⟩ : St).l.map uV).toArray 103) := ⟨_, rfl⟩
          have Bn : BB f2 f.heap.size 103 ((⟨ad y1 (t29 t), t.a, t.b, t.c, ad t.d y1, t.e, t.f, t.g⟩ : St).l.map uV) := by rw [hf2]; exact BB.new _ _ _
          have bf2 : Below f.heap.size f f2 := by rw [hf2]; exact (Below.refl _ _).alloc (Nat.le_refl _) _
          refine vg_val 22 (.slice (some ⟨f.heap.size, 0, none⟩) 8 8) f2 rfl (by kernel_rfl) (want_none rfl) (ex_bs8 rfl (q200.e (j := 194) rfl) (q200.e (j := 195) rfl) (q200.e (j := 198) rfl) (q200.e (j := 201) rfl) (q200.e (j := 206) rfl) (q200.e (j := 207) rfl) (q200.e (j := 210) rfl) (q200.e (j := 213) rfl) (by rw [hf2]; exact bs8U (⟨ad y1 (t29 t), t.a, t.b, t.c, ad t.d y1, t.e, t.f, t.g⟩ : St) _)) rfl q200.z (by decide) (fun _ => (Bvf.later bf2)) (q200.k fun _ q201 => ?_);clear q200
          refine vg_takeW 23 true (.slice (some ⟨f.heap.size, 0, none⟩) 8 8) rfl (by kernel_rfl) (by kernel_rfl) (by kernel_rfl) (by kernel_rfl) (want_none rfl) (fun hc v => ex_assign rfl (q201.e (j := 214) rfl)) rfl q201.z (by decide) (fun _ => (Bvf.later bf2)) (q201.k fun _ q202 => ?_);clear q201
          refine vg_done (by kernel_rfl) ?_
          have q203 := ((((((Rp.nil q202.z).cons (q202.a 0 rfl)).cons (q202.a 2 rfl)).cons (q202.a 7 rfl)).cons (q202.a 12 rfl)).cons (q202.a 14 rfl))
          clear q202
          go_upto_region 19 with fail
          refine wp_region_lit ?_
          refine q203.t (.int .i64 ((j : Nat) : Int)) (ex_move rfl (q203.e (j := 14) rfl)) fun _ q204 => ?_;clear q203
          refine q204.t (.int .i64 ((j + 1 : Nat) : Int)) (ex_bin rfl (q204.e (j := 121) rfl) rfl (add1C _ _ j (by omega) _)) fun _ q205 => ?_;clear q204
          refine q205.t (.int .i64 ((j + 1 : Nat) : Int)) (ex_assign rfl (q205.e (j := 122) rfl)) fun _ q206 => ?_;clear q205
          have q207 := ((((((Rp.nil q206.z).cons (q206.a 0 rfl)).cons (q206.a 2 rfl)).cons (q206.a 7 rfl)).cons (q206.a 12 rfl)).cons (q206.a 14 rfl))
          clear q206
          refine wpList_nil ?_
          have hfs : w.heap.size < f.heap.size := by have := B1f.lt; omega
          subst hy1 ht
          exact ⟨_, rfl, hit, f.heap.size, q207, hfs, Bn, B1f.later bf2, bf.trans (bf2.mono bf.size)⟩
        · obtain rfl : j = 64 := by omega
          obtain ⟨t, ht⟩ : ∃ t, t = (rN kT9 (wrds b) s 64) := ⟨_, rfl⟩
          rw [← ht] at Bv
          go_upto_region 18 with fail
          refine wp_region_lit ?_
          refine q100.t (.int .i64 ((64 : Nat) : Int)) (ex_move rfl (q100.e (j := 14) rfl)) fun _ q101 => ?_;clear q100
          refine q101.t (.bool false) (ex_bin rfl (q101.e (j := 119) rfl) rfl (ltF _ _ hit _)) fun _ q102 => ?_;clear q101
          refine wpList_nil ?_
          go_upto_region 25 with fail
          refine wp_cond_false (q102.e (j := 120) rfl) ?_
          go_upto_region 25 with fail
          refine wp_region_lit ?_
          refine q102.t (.int .i64 ((0 : Nat) : Int)) (ex_assign rfl rfl) fun _ q103 => ?_;clear q102
          have q104 := ((((Rp.nil q103.z).cons (q103.a 0 rfl)).cons (q103.a 12 rfl)).cons (q103.a 19 rfl))
          clear q103
          refine wpList_nil ?_
          go_upto_region 26 with fail
          refine v_loop 19 8 (fun j T wr => Rp T 232 [(19, gw true (.int .i64 ((j : Nat) : Int))), (12, gw true (.slice (some ⟨g, 0, none⟩) 8 8)), (0, gw true (.slice a 8 c))] ∧ Hid (BB wr g 103 ((adN t s j).map uV) ∧ Below w.heap.size w wr)) (fun j T w h => h.1.a 19 rfl) ⟨q104, Bv, br⟩ ?_
          clear q104 Bv B1 br zr hit hj
          intro j T wr hj hh
          obtain ⟨q100, HJ⟩ := hh
          obtain ⟨Bv, br⟩ := HJ.out
          clear HJ
          have zr := br.size
          have hl := adN_len t s j
          by_cases hit : j < 8
          · go_upto_region 26 with fail
            refine wp_region_lit ?_
            refine q100.t (.int .i64 ((j : Nat) : Int)) (ex_move rfl (q100.e (j := 19) rfl)) fun _ q101 => ?_;clear q100
            refine q101.t (.bool true) (ex_bin rfl (q101.e (j := 215) rfl) rfl (ltT _ _ hit _)) fun _ q102 => ?_;clear q101
            refine wpList_nil ?_
            go_upto_region 28 with fail
            refine wp_cond_true (q102.e (j := 216) rfl) ?_
            go_upto_region 28 with fail
            refine vg_start (fun k => k == 12) (fun v => v = wr.drew) (by kernel_rfl) ?_
            have hd : Below wr.heap.size wr wr.drew := (Below.refl _ _).drew
            have hzd : wr.drew.heap.size = wr.heap.size := rfl
            generalize wr.drew = d at *
            have Bvd := Bv.later hd
            have bd : Below w.heap.size w d := br.trans (hd.mono zr)
            have cj := Bvd.u9 (j := j) (by omega)
            obtain ⟨qs, os, hqs, hqsl, hcs⟩ := (h.on bd (Nat.le_refl _)).u9 (j := j) (by omega)
            refine vg_takeW 0 true (.slice (some ⟨g, 0, none⟩) 8 8) rfl (by kernel_rfl) (by kernel_rfl) (by kernel_rfl) (by kernel_rfl) (want_none rfl) (fun hc v => ex_move rfl (q102.e (j := 12) rfl)) rfl q102.z (by decide) (fun _ => rfl) (q102.k fun _ q103 => ?_);clear q102
            refine vg_takeW 1 true (.int .i64 ((j : Nat) : Int)) rfl (by kernel_rfl) (by kernel_rfl) (by kernel_rfl) (by kernel_rfl) (want_none rfl) (fun hc v => ex_move rfl (q103.e (j := 19) rfl)) rfl q103.z (by decide) (fun _ => rfl) (q103.k fun _ q104 => ?_);clear q103
            refine vg_takeW 2 true (.slice (some ⟨g, 0, none⟩) 8 8) rfl (by kernel_rfl) (by kernel_rfl) (by kernel_rfl) (by kernel_rfl) (want_none rfl) (fun hc v => ex_move rfl (q104.e (j := 12) rfl)) rfl q104.z (by decide) (fun _ => rfl) (q104.k fun _ q105 => ?_);clear q104
            refine vg_takeW 3 true (.int .i64 ((j : Nat) : Int)) rfl (by kernel_rfl) (by kernel_rfl) (by kernel_rfl) (by kernel_rfl) (want_none rfl) (fun hc v => ex_move rfl (q105.e (j := 19) rfl)) rfl q105.z (by decide) (fun _ => rfl) (q105.k fun _ q106 => ?_);clear q105
            refine vg_takeW 4 true (.pointer (some ⟨g, j, none⟩)) rfl (by kernel_rfl) (by kernel_rfl) (by kernel_rfl) (by kernel_rfl) (want_none rfl) (fun hc v => ex_ix rfl (q106.e (j := 221) rfl) (q106.e (j := 222) rfl) (ixU0 g 8 8 j hit _)) rfl q106.z (by decide) (fun _ => rfl) (q106.k fun _ q107 => ?_);clear q106
            refine vg_take 5 true (.int .u32 ((adN t s j).getD j 0)) rfl (by kernel_rfl) (by kernel_rfl) (by kernel_rfl) (by kernel_rfl) (by kernel_rfl) (by kernel_rfl) (want_none rfl) (fun hc v hv => by subst hv; exact ex_ld rfl (q107.e (j := 223) rfl) (ldU cj)) rfl q107.z (by decide) rfl (q107.k fun _ q108 => ?_);clear q107
            refine vg_takeW 6 true (.slice a 8 c) rfl (by kernel_rfl) (by kernel_rfl) (by kernel_rfl) (by kernel_rfl) (want_none rfl) (fun hc v => ex_move rfl (q108.e (j := 0) rfl)) rfl q108.z (by decide) (fun _ => rfl) (q108.k fun _ q109 => ?_);clear q108
            refine vg_takeW 7 true (.int .i64 ((j : Nat) : Int)) rfl (by kernel_rfl) (by kernel_rfl) (by kernel_rfl) (by kernel_rfl) (want_none rfl) (fun hc v => ex_move rfl (q109.e (j := 19) rfl)) rfl q109.z (by decide) (fun _ => rfl) (q109.k fun _ q110 => ?_);clear q109
            refine vg_takeW 8 true (.pointer (some ⟨qs, (os + j), none⟩)) rfl (by kernel_rfl) (by kernel_rfl) (by kernel_rfl) (by kernel_rfl) (want_none rfl) (fun hc v => ex_ix rfl (q110.e (j := 225) rfl) (q110.e (j := 226) rfl) (by rw [hqs]; exact ixU qs os 8 c j hit _)) rfl q110.z (by decide) (fun _ => rfl) (q110.k fun _ q111 => ?_);clear q110
            refine vg_take 9 true (.int .u32 (s.l.getD j 0)) rfl (by kernel_rfl) (by kernel_rfl) (by kernel_rfl) (by kernel_rfl) (by kernel_rfl) (by kernel_rfl) (want_none rfl) (fun hc v hv => by subst hv; exact ex_ld rfl (q111.e (j := 227) rfl) (ldU hcs)) rfl q111.z (by decide) rfl (q111.k fun _ q112 => ?_);clear q111
            refine vg_takeW 10 true (.int .u32 (ad ((adN t s j).getD j 0) (s.l.getD j 0))) rfl (by kernel_rfl) (by kernel_rfl) (by kernel_rfl) (by kernel_rfl) (want_none rfl) (fun hc v => ex_bin rfl (q112.e (j := 224) rfl) (q112.e (j := 228) rfl) (addU _ _ _ _ _)) rfl q112.z (by decide) (fun _ => rfl) (q112.k fun _ q113 => ?_);clear q112
            refine vg_takeW 11 true (.pointer (some ⟨g, j, none⟩)) rfl (by kernel_rfl) (by kernel_rfl) (by kernel_rfl) (by kernel_rfl) (want_none rfl) (fun hc v => ex_ix rfl (q113.e (j := 219) rfl) (q113.e (j := 220) rfl) (ixU0 g 8 8 j hit _)) rfl q113.z (by decide) (fun _ => rfl) (q113.k fun _ q114 => ?_);clear q113
            obtain ⟨d2, hd2⟩ : ∃ z, z = d.setCell ⟨g, j, none⟩ (.int .u32 (ad ((adN t s j).getD j 0) (s.l.getD j 0))) := ⟨_, rfl⟩
            refine vg_store 12 d2 rfl (by kernel_rfl) (by kernel_rfl) (want_none rfl) (ex_st rfl (q114.e (j := 230) rfl) (q114.e (j := 229) rfl) (by rw [hd2]; exact stU cj (Bvd.free _))) rfl ?_
            have Bv2 : BB d2 g 103 ((adN t s (j + 1)).map uV) := by rw [hd2]; exact Bvd.setu _ _
            have be : Below w.heap.size w d2 := by rw [hd2]; exact bd.trans (bel_ge (upd1 _ _ _ _) bd.size (by omega))
            clear hd2
            refine vg_done (by kernel_rfl) ?_
            have q115 := ((((Rp.nil q114.z).cons (q114.a 0 rfl)).cons (q114.a 12 rfl)).cons (q114.a 19 rfl))
            clear q114
            go_upto_region 27 with fail
            refine wp_region_lit ?_
            refine q115.t (.int .i64 ((j : Nat) : Int)) (ex_move rfl (q115.e (j := 19) rfl)) fun _ q116 => ?_;clear q115
            refine q116.t (.int .i64 ((j + 1 : Nat) : Int)) (ex_bin rfl (q116.e (j := 217) rfl) rfl (add1C _ _ j (by omega) _)) fun _ q117 => ?_;clear q116
            refine q117.t (.int .i64 ((j + 1 : Nat) : Int)) (ex_assign rfl (q117.e (j := 218) rfl)) fun _ q118 => ?_;clear q117
            have q119 := ((((Rp.nil q118.z).cons (q118.a 0 rfl)).cons (q118.a 12 rfl)).cons (q118.a 19 rfl))
            clear q118
            refine wpList_nil ?_
            exact ⟨_, rfl, hit, q119, Bv2, be⟩
          · obtain rfl : j = 8 := by omega
            rw [adN_8, St.ad_comm, ht] at Bv
            go_upto_region 26 with fail
            refine wp_region_lit ?_
            refine q100.t (.int .i64 ((8 : Nat) : Int)) (ex_move rfl (q100.e (j := 19) rfl)) fun _ q101 => ?_;clear q100
            refine q101.t (.bool false) (ex_bin rfl (q101.e (j := 215) rfl) rfl (ltF _ _ hit _)) fun _ q102 => ?_;clear q101
            refine wpList_nil ?_
            go_upto_region 29 with fail
            refine wp_cond_false (q102.e (j := 216) rfl) ?_
            go_upto_region 29 with fail
            refine wp_region_lit ?_
            refine q102.t (.slice (some ⟨g, 0, none⟩) 8 8) (ex_move rfl (q102.e (j := 12) rfl)) fun _ q103 => ?_;clear q102
            refine q103.t (.slice (some ⟨g, 0, none⟩) 8 8) (ex_assign rfl (q103.e (j := 231) rfl)) fun _ q104 => ?_;clear q103
            refine wpList_nil ?_
            have sF : SlY yU9 wr (some ⟨g, 0, none⟩) 8 8 (blkF s b).l := Bv.slu (L := (blkF s b).l) (by show (8 : Nat) ≤ maxLen; unfold maxLen; decide)
            go_wp2
            refine bodyPost_ret (results_tmp rfl _ _ _) rfl ⟨g, ?_, sF, br⟩
            rw [getD_of (q104.a 6 rfl)]
            rfl

end Go.Proofs.Ytomiifnhcojilaa
