import Derived.Test.YtomiifnhcojilaaRows
import Derived.Deep.SlicePairs
import Derived.ChangeOld
import Derived.OpenShut
import Derived.ProofKit
import Derived.SizedLaws
import Derived.Test.YtomiifnhcojilaaB6
set_option maxRecDepth 100000
set_option linter.unusedVariables false
set_option linter.unusedSimpArgs false
namespace Go.Proofs.Ytomiifnhcojilaa
open Go.RowKit Go.Maps
open Classical
end Go.Proofs.Ytomiifnhcojilaa
namespace Go.Proofs.Ytomiifnhcojilaa
open Go.RowKit Go.Maps
open Classical
end Go.Proofs.Ytomiifnhcojilaa
namespace Go.Proofs.Ytomiifnhcojilaa
open Go.RowKit Go.Maps
open Classical
theorem getD_last20 {P : List Hs} {k : Nat} (hl : P.length = k) (hk : 1 ≤ k) : P[k - 1]? = some (P.getD (P.length - 1) zH) := by
  rw [List.getD_eq_getElem?_getD, hl, List.getElem?_eq_getElem (by omega)]
  rfl
theorem one_or {a b c d : Hs} (h : nd a b = nd c d) : (a = c ∧ b = d) ∨ ((!(decide ((a).v = (c).v) && decide ((b).v = (d).v))) && decide ((nd (a) (b)).v = (nd (c) (d)).v)) = true := by
  by_cases h1 : a.v = c.v <;> by_cases h2 : b.v = d.v
  · exact .inl ⟨Hs.ext20 h1, Hs.ext20 h2⟩
  · exact .inr (by rw [h]; simp [h2])
  · exact .inr (by rw [h]; simp [h1])
  · exact .inr (by rw [h]; simp [h1])
end Go.Proofs.Ytomiifnhcojilaa
namespace Go.Proofs.Ytomiifnhcojilaa
open Go.RowKit Go.Maps
open Classical
theorem snoc20 {P : List Hs} {k : Nat} {tp : Hs} (hl : P.length = k) (hk : 1 ≤ k) (h : P[k - 1]? = some tp) : P = P.take (k - 1) ++ [tp] := by
  obtain ⟨h1, h2⟩ := List.getElem?_eq_some_iff.1 h
  have := List.take_succ_eq_append_getElem h1
  rw [h2, show k - 1 + 1 = k by omega, List.take_of_length_le (by omega)] at this
  exact this
set_option maxHeartbeats 1000000 in
theorem climbs_ex : ∀ (N : Nat) (L : List En) (p : Nat) (x : En) (P : List Hs) (n k : Nat), L.length = n → P.length = k → n ≤ N → 1 ≤ p → p ≤ n → n ≤ 1000000 → k = su p n → (∀ x ∈ L, x.o.v.size ≤ 140737488350000) → x.o.v.size ≤ 140737488350000 →
    ∃ F : Bool, (cl (lf x) p n P = hd (L.map lf) → (¬ L[p - 1]? = some x ∨ ¬ P = pu (L.map lf) p) → F = true) ∧ ∀ (a : Option Addr) (c : Nat) (a3 : Option Addr) (c3 : Nat) (w : World), SlY yE w a n c L → SlY yH w a3 k c3 P → Calls Try.prog 34 #[.slice a n c, .int .i64 ((p : Nat) : Int), x.val20, .slice a3 k c3] w fun e w' => e = .returned (.tuple #[(cl (lf x) p n P).val, .bool F]) ∧ Below w.heap.size w w'
  | 0, _, _, _, _, _, _, _, _, h, _, _, _, _, _, _ => by omega
  | N + 1, L, p, x, P, n, k, lL, lP, hN, h1, hpn, hn2, hk, hv, hx => by
    by_cases e : n = 1
    · subst e
      obtain rfl : p = 1 := by omega
      obtain ⟨y0, rfl⟩ := List.length_eq_one_iff.1 lL
      rw [cl_1]
      refine ⟨(!decide (x = y0)) && (decide ((lf x).v = (lf y0).v)), fun e1 hne => ?_, fun a c a3 c3 w hL hP => climbs_1 [y0] 1 1 x y0 P k rfl rfl a c a3 c3 w hL hP hv hx⟩
      have e2 : lf x = lf y0 := e1
      rcases hne with hne | hne
      · have : ¬ x = y0 := fun e => hne (by rw [e]; rfl)
        rw [decide_eq_false this, decide_eq_true (by rw [e2])]
        rfl
      · exfalso
        apply hne
        rw [pu_1 _ _ (by simp)]
        exact List.eq_nil_of_length_eq_zero (by rw [lP, hk, su_1])
    · have hb := lft_b (n := n) (by omega)
      have hsl := su_le n p (by omega)
      have e2 := hd_2 (L.map lf) (by rw [List.length_map]; omega)
      rw [List.length_map, lL] at e2
      by_cases hp : p ≤ lft n
      · have hka := su_l p n (by omega) hp
        have hk1 : 1 ≤ k := by omega
        have hcl := cl_l (lf x) p n P (by omega) hp
        have htp := getD_last20 lP hk1
        rw [lP] at hcl htp
        generalize P.getD (k - 1) zH = tp at hcl htp
        have hPs := snoc20 lP hk1 htp
        have hpu := pu_l (L.map lf) p (by rw [List.length_map]; omega) (by rw [List.length_map, lL]; exact hp)
        rw [List.length_map, lL] at hpu
        obtain ⟨F1, m1, c1⟩ := climbs_ex N (L.take (lft n)) p x (P.take (k - 1)) (lft n) (k - 1) (by rw [List.length_take]; omega) (by rw [List.length_take]; omega) (by omega) h1 hp (by omega) (by omega) (fun y hy => hv y (List.mem_of_mem_take hy)) hx
        rw [hcl]
        refine ⟨_, fun e1 hne => ?_, fun a c a3 c3 w hL hP => climbs_l L n p x tp P k htp hk1 (by omega) F1 c1 a c a3 c3 w hL hP (by omega) hn2 hp hpn hv hx⟩
        rw [e2] at e1
        rcases one_or e1 with ⟨q1, q2⟩ | q
        · rw [m1 (by rw [q1, List.map_take]) ?_]
          · rfl
          · rcases hne with hne | hne
            · refine .inl (fun h => hne ?_)
              rwa [List.getElem?_take, if_pos (by omega)] at h
            · refine .inr (fun h => hne ?_)
              rw [hPs, hpu, q2, h, List.map_take]
        · rw [q, Bool.or_true]
      · have hka := su_r p n (by omega) hp
        have hk1 : 1 ≤ k := by omega
        have hcl := cl_r (lf x) p n P (by omega) hp
        have htp := getD_last20 lP hk1
        rw [lP] at hcl htp
        generalize P.getD (k - 1) zH = tp at hcl htp
        have hPs := snoc20 lP hk1 htp
        have hpu := pu_r (L.map lf) p (by rw [List.length_map]; omega) (by rw [List.length_map, lL]; exact hp)
        rw [List.length_map, lL] at hpu
        obtain ⟨F1, m1, c1⟩ := climbs_ex N (L.drop (lft n)) (p - lft n) x (P.take (k - 1)) (n - lft n) (k - 1) (by rw [List.length_drop]; omega) (by rw [List.length_take]; omega) (by omega) (by omega) (by omega) (by omega) (by omega) (fun y hy => hv y (List.mem_of_mem_drop hy)) hx
        rw [hcl]
        refine ⟨_, fun e1 hne => ?_, fun a c a3 c3 w hL hP => climbs_r L n p x tp P k htp hk1 (by omega) F1 c1 a c a3 c3 w hL hP (by omega) hn2 (by omega) hpn hv hx⟩
        rw [e2] at e1
        rcases one_or e1 with ⟨q1, q2⟩ | q
        · rw [m1 (by rw [q2, List.map_drop]) ?_]
          · rfl
          · rcases hne with hne | hne
            · refine .inl (fun h => hne ?_)
              rwa [List.getElem?_drop, show lft n + (p - lft n - 1) = p - 1 by omega] at h
            · refine .inr (fun h => hne ?_)
              rw [hPs, hpu, q1, h, List.map_drop]
        · rw [q, Bool.or_true]
set_option maxHeartbeats 2000000 in
theorem within_z (k r v : Int) (m : Nat) (hm : m ≤ 1000) (hr : k.tmod ((m + 1 : Nat) : Int) = r) (hv : v = if r < 0 then r + m + 1 else r) (w : World) :
    Calls Try.prog 32 #[.int .i64 k, .int .i64 (m : Int)] w fun e w' => e = .returned (.int .i64 v) ∧ w' = w := by
  go_enter Try.func32, Try.ntmps32
  go_upto_region 0 with fail
  refine wp_region_lit ?_
  refine vl_gen (fun T => Rp T 16 [(1, gw true (.int .i64 ((m : Nat) : Int))), (0, gw true (.int .i64 (k : Int)))]) (((Rp.nil rfl).cons rfl).cons rfl) (fun Z0 q0 => ?_)
  refine q0.t (.int .i64 (0 : Int)) (ex_assign rfl rfl) fun _ q1 => ?_;clear q0
  refine wpList_nil ?_
  go_upto_region 1 with fail
  refine wp_region_lit ?_
  refine q1.t (.int .i64 (k : Int)) (ex_move rfl (q1.e (j := 0) rfl)) fun _ q2 => ?_;clear q1
  refine q2.t (.int .i64 ((m : Nat) : Int)) (ex_move rfl (q2.e (j := 1) rfl)) fun _ q3 => ?_;clear q2
  refine q3.t (.int .i64 ((m + 1 : Nat) : Int)) (ex_bin rfl (q3.e (j := 6) rfl) rfl (add1C _ _ m (by omega) _)) fun _ q4 => ?_;clear q3
  have hr1 := Int.tmod_lt_of_pos k (b := ((m + 1 : Nat) : Int)) (by omega)
  have hr2 := Int.lt_tmod_of_pos k (b := ((m + 1 : Nat) : Int)) (by omega)
  refine q4.t (.int .i64 (k.tmod ((m + 1 : Nat) : Int) : Int)) (ex_bin rfl (q4.e (j := 5) rfl) (q4.e (j := 7) rfl) (remZ20 _ _ k _ (by omega) (by omega) _)) fun _ q5 => ?_;clear q4
  rw [hr] at q5 hr1 hr2
  refine q5.t (.int .i64 (r : Int)) (ex_assign rfl (q5.e (j := 8) rfl)) fun _ q6 => ?_;clear q5
  refine wpList_nil ?_
  go_upto_region 2 with fail
  refine wp_region_lit ?_
  refine q6.t (.int .i64 (r : Int)) (ex_move rfl (q6.e (j := 0) rfl)) fun _ q7 => ?_;clear q6
  by_cases h1 : r < 0
  · refine q7.t (.bool true) (ex_bin (Y := .int .i64 (0 : Int)) rfl (q7.e (j := 9) rfl) rfl (ltT20 _ _ h1 _)) fun _ q8 => ?_;clear q7
    refine wpList_nil ?_
    go_upto_region 3 with fail
    refine wp_cond_true (q8.e (j := 10) rfl) ?_
    go_upto_region 3 with fail
    refine wp_region_lit ?_
    refine q8.t (.int .i64 (r : Int)) (ex_move rfl (q8.e (j := 0) rfl)) fun _ q9 => ?_;clear q8
    refine q9.t (.int .i64 ((m : Nat) : Int)) (ex_move rfl (q9.e (j := 1) rfl)) fun _ q10 => ?_;clear q9
    refine q10.t (.int .i64 (r + (m : Int) : Int)) (ex_bin rfl (q10.e (j := 11) rfl) (q10.e (j := 12) rfl) (addZ20 _ _ _ _ (by omega) _)) fun _ q11 => ?_;clear q10
    refine q11.t (.int .i64 (r + (m : Int) + 1 : Int)) (ex_bin (Y := .int .i64 (1 : Int)) rfl (q11.e (j := 13) rfl) rfl (addZ20 _ _ _ _ (by omega) _)) fun _ q12 => ?_;clear q11
    refine q12.t (.int .i64 (r + (m : Int) + 1 : Int)) (ex_assign rfl (q12.e (j := 14) rfl)) fun _ q13 => ?_;clear q12
    refine wpList_nil ?_
    go_upto_region 4 with fail
    refine wp_region_lit ?_
    refine q13.t (.int .i64 (r + (m : Int) + 1 : Int)) (ex_move rfl (q13.e (j := 0) rfl)) fun _ q14 => ?_;clear q13
    refine q14.t (.int .i64 (r + (m : Int) + 1 : Int)) (ex_assign rfl (q14.e (j := 15) rfl)) fun _ q15 => ?_;clear q14
    refine wpList_nil ?_
    go_wp2
    refine bodyPost_ret (results_tmp rfl _ _ _) rfl ?_
    rw [getD_of (q15.a 4 rfl)]
    rw [hv, if_pos h1]; exact ⟨rfl, rfl⟩
  · refine q7.t (.bool false) (ex_bin (Y := .int .i64 (0 : Int)) rfl (q7.e (j := 9) rfl) rfl (ltF20 _ _ h1 _)) fun _ q8 => ?_;clear q7
    refine wpList_nil ?_
    go_upto_region 4 with fail
    refine wp_cond_false (q8.e (j := 10) rfl) ?_
    go_upto_region 4 with fail
    refine wp_region_lit ?_
    refine q8.t (.int .i64 (r : Int)) (ex_move rfl (q8.e (j := 0) rfl)) fun _ q9 => ?_;clear q8
    refine q9.t (.int .i64 (r : Int)) (ex_assign rfl (q9.e (j := 15) rfl)) fun _ q10 => ?_;clear q9
    refine wpList_nil ?_
    go_wp2
    refine bodyPost_ret (results_tmp rfl _ _ _) rfl ?_
    rw [getD_of (q10.a 4 rfl)]
    rw [hv, if_neg (by omega)]; exact ⟨rfl, rfl⟩
theorem within_ex (k : Int) (m : Nat) (hm : m ≤ 1000) : ∃ j : Nat, j ≤ m ∧ ∀ w : World, Calls Try.prog 32 #[.int .i64 k, .int .i64 (m : Int)] w fun e w' => e = .returned (.int .i64 (j : Int)) ∧ w' = w := by
  have hr1 := Int.tmod_lt_of_pos k (b := ((m + 1 : Nat) : Int)) (by omega)
  have hr2 := Int.lt_tmod_of_pos k (b := ((m + 1 : Nat) : Int)) (by omega)
  obtain ⟨r, hr⟩ : ∃ r, k.tmod ((m + 1 : Nat) : Int) = r := ⟨_, rfl⟩
  rw [hr] at hr1 hr2
  by_cases h1 : r < 0
  · refine ⟨(r + m + 1).toNat, by omega, fun w => ?_⟩
    exact within_z k r _ m hm hr (by rw [Int.toNat_of_nonneg (by omega), if_pos h1]) w
  · refine ⟨r.toNat, by omega, fun w => ?_⟩
    exact within_z k r _ m hm hr (by rw [Int.toNat_of_nonneg (by omega), if_neg h1]) w
theorem eqEZ20 (x y : Operand) (a b : Int) (w : World) : (do eqGuard .eql 43 x y (.int .i64 a) (.int .i64 b); binOp .eql 43 (.int .i64 a) (.int .i64 b) : Sem Value).run Try.prog w = .ok (.bool (decide (a = b))) w := by
  by_cases h : a = b
  · subst h; rw [decide_eq_true rfl]; exact eqEt x y a w
  · rw [decide_eq_false h]; go_simp
end Go.Proofs.Ytomiifnhcojilaa
namespace Go.Proofs.Ytomiifnhcojilaa
open Go.ChangeShapes Go.WideShapes Go.RowKit
open Classical
theorem bulk_app {H : Type} (l r : List (DataW H)) : Rows.uptoBulkAll (l ++ r) = Rows.uptoBulkAll l + Rows.uptoBulkAll r := by
  induction l with
  | nil => simp [Rows.uptoBulkAll]
  | cons x l ih => simp only [List.cons_append, Rows.uptoBulkAll, ih]; omega
theorem bulk_range {H : Type} (D : Nat → DataW H) (f : Nat → Nat) : ∀ n, (∀ i, i < n → f i ≤ Rows.uptoBulk (D i)) → ((List.range n).map f).sum ≤ Rows.uptoBulkAll ((List.range n).map D)
  | 0, _ => by simp [Rows.uptoBulkAll]
  | n + 1, h => by
    have h1 := bulk_range D f n (fun i hi => h i (by omega))
    have h2 := h n (by omega)
    rw [List.range_succ, List.map_append, List.map_append, bulk_app, List.sum_append]
    simp only [List.map_cons, List.map_nil, List.sum_cons, List.sum_nil, Rows.uptoBulkAll]
    omega
theorem bulk_bound {H : Type} {ds : List (DataW H)} (h : Rows.uptoSmall H ds = true) : Rows.uptoBulkAll ds ≤ 1048576 := by
  unfold Rows.uptoSmall at h
  exact of_decide_eq_true h
theorem open_up {α : Type} {Y : Lay α} (K : Y.Ok) [Inhabited α] (fits : α → Prop) (wt : α → Nat) {H : Type} {enc : TypeId × Value → H} {W : World} (hT : Try.prog.cellsOf Y.T = Y.k)
    (el : ∀ {n : Nat} {cs : List Value} {x : DataW H × List MemPlace}, DataW.trod enc Try.prog W 0 (fun _ => true) true n Y.T cs = some x → ∃ q : α, fits q ∧ cs = Y.cs q ∧ wt q ≤ Rows.uptoBulk x.1)
    {fuel : Nat} {cs : List Value} {x : DataW H × List MemPlace} (h : DataW.trod enc Try.prog W 0 (fun _ => true) true fuel Y.ST cs = some x) :
    ∃ (a : Option Addr) (n c : Nat) (P : List α), cs = [.slice a n c] ∧ SlY Y W a n c P ∧ (∀ q ∈ P, fits q) ∧ (P.map wt).sum + 1 ≤ Rows.uptoBulk x.1 := by
  rcases Go.Deep.open_slice K.und h with ⟨hcs, hx⟩ | ⟨y, n, c, m, k, D, Pl, hcs, hb, hl, hm, hmm, hx, hall⟩
  · refine ⟨none, 0, 0, [], hcs, ⟨rfl, Nat.le_refl _, by unfold maxLen; omega, fun _ => ⟨rfl, rfl⟩, fun x hx => .inl rfl⟩, by simp, ?_⟩
    rw [hx]
    simp [Rows.uptoBulk]
  · have hlm : n ≤ m := by rw [hmm]; split <;> omega
    have each : ∀ i, i < n → ∃ q : α, fits q ∧ (∀ j, j < Y.k → W.cell? ((y.add (i * Y.k)).add j) = (Y.cs q)[j]?) ∧ wt q ≤ Rows.uptoBulk (D i) := by
      intro i hi
      obtain ⟨cs', h1, h2⟩ := hall i (by omega)
      rw [hT] at h1
      obtain ⟨q, hf, rfl, hw⟩ := el h2
      obtain ⟨_, _, hcell⟩ := World.cells?_some h1
      exact ⟨q, hf, hcell, hw⟩
    obtain ⟨q, hq⟩ := Go.Deep.choose_lt each
    refine ⟨some y, n, c, (List.range n).map q, hcs, ⟨by simp, hl, hm, (fun e => by cases e), fun x hx => ?_⟩, ?_, ?_⟩
    · cases hx
      by_cases hn0 : n = 0
      · subst hn0
        exact .inl rfl
      · obtain ⟨b, o, s⟩ := y
        have z0 := (hq 0 (by omega)).2.1 0 K.kp
        have z1 := z0.trans (List.getElem?_eq_getElem (by rw [K.len]; exact K.kp))
        have hs := World.cell?_spot z1
        obtain rfl : s = none := by
          rw [Nat.zero_mul] at hs
          simpa [Addr.add] using hs
        refine .inr ⟨b, o, rfl, ?_, fun i x hx j u hu => ?_⟩
        · rw [Addr.add_lit, Addr.add_lit] at z1
          exact World.block_lt_of_cell? _ _ z1
        · have hi : i < n := by
            have := (List.getElem?_eq_some_iff.1 hx).1
            simpa using this
          have e : q i = x := by
            simp [hi] at hx
            exact hx
          subst e
          have hj : j < Y.k := by have := (List.getElem?_eq_some_iff.1 hu).1; rwa [K.len] at this
          have := (hq i hi).2.1 j hj
          rw [Addr.add_lit, Addr.add_lit] at this
          exact this.trans hu
    · intro z hz
      obtain ⟨i, hi, rfl⟩ := List.mem_map.1 hz
      exact (hq i (List.mem_range.1 hi)).1
    · rw [hx, List.map_map]
      have := bulk_range D (fun i => wt (q i)) n (fun i hi => (hq i hi).2.2)
      simp only [Rows.uptoBulk]
      have e : (List.range n).map (wt ∘ q) = (List.range n).map (fun i => wt (q i)) := rfl
      rw [e]
      omega
theorem cellsI20 : Try.prog.cellsOf 3 = 1 := by kernel_rfl
theorem cellsS20 : Try.prog.cellsOf 9 = 1 := by kernel_rfl
theorem cellsO20 : Try.prog.cellsOf 26 = 3 := by kernel_rfl
theorem cellsE20 : Try.prog.cellsOf 28 = 5 := by kernel_rfl
theorem up_opc {H : Type} {enc : TypeId × Value → H} {W : World} {n : Nat} {cs : List Value} {x : DataW H × List MemPlace} (h : DataW.trod enc Try.prog W 0 (fun _ => true) true n 26 cs = some x) :
    ∃ p : Opn, p.fits ∧ cs = [.int .i64 p.k, .int .i64 p.s, .string p.v] ∧ p.v.size ≤ Rows.uptoBulk x.1 := by
  obtain ⟨xs, k, hk, hxy, hlen, hxl, hf⟩ := DataW.trod_struct Try.underlying26 h
  rw [cellsO20] at hlen
  have hxl : xs.length = 3 := hxl
  match xs, hxl, cs, hlen with
  | [y0, y1, y2], _, [v0, v1, v2], _ =>
    have g0 := hf 0 _ rfl
    have g1 := hf 1 _ rfl
    have g2 := hf 2 _ rfl
    simp [cellsI20, cellsS20] at g0 g1 g2
    obtain ⟨K, hK, hx0, hw0⟩ := DataW.trod_int Try.underlying3 g0
    obtain ⟨N, hN, hx2, hw2⟩ := DataW.trod_int Try.underlying3 g1
    obtain ⟨t, hS, hx4, hw4⟩ := DataW.trod_string Try.underlying9 g2
    refine ⟨⟨K, N, t⟩, ⟨hw0, hw2, hw4⟩, ?_, ?_⟩
    · rw [(List.cons_eq_cons.1 hK).1, (List.cons_eq_cons.1 hN).1, (List.cons_eq_cons.1 hS).1]
    · rw [hxy]
      simp only [List.map_cons, List.map_nil, Rows.uptoBulk, Rows.uptoBulkAll, hx4]
      show t.data.size ≤ _
      rw [← Array.length_toList]
      omega
theorem up_enc {H : Type} {enc : TypeId × Value → H} {W : World} {n : Nat} {cs : List Value} {x : DataW H × List MemPlace} (h : DataW.trod enc Try.prog W 0 (fun _ => true) true n 28 cs = some x) :
    ∃ p : En, p.fits ∧ cs = p.cs ∧ p.o.v.size + 1 ≤ Rows.uptoBulk x.1 := by
  obtain ⟨xs, k, hk, hxy, hlen, hxl, hf⟩ := DataW.trod_struct Try.underlying28 h
  rw [cellsE20] at hlen
  have hxl : xs.length = 3 := hxl
  match xs, hxl, cs, hlen with
  | [y0, y1, y2], _, [v0, v1, v2, v3, v4], _ =>
    have g0 := hf 0 _ rfl
    have g1 := hf 1 _ rfl
    have g2 := hf 2 _ rfl
    simp [cellsI20, cellsO20] at g0 g1 g2
    obtain ⟨K, hK, hx0, hw0⟩ := DataW.trod_int Try.underlying3 g0
    obtain ⟨N, hN, hx2, hw2⟩ := DataW.trod_int Try.underlying3 g1
    obtain ⟨o, ho, e, hwt⟩ := up_opc g2
    refine ⟨⟨K, N, o⟩, ⟨hw0, hw2, ho⟩, ?_, ?_⟩
    · have e0 := (List.cons_eq_cons.1 hK).1
      have e1 := (List.cons_eq_cons.1 hN).1
      simp at e
      obtain ⟨e2, e3, e4⟩ := e
      subst e0 e1 e2 e3 e4
      rfl
    · rw [hxy]
      simp only [List.map_cons, List.map_nil, Rows.uptoBulk, Rows.uptoBulkAll]
      show o.v.size + 1 ≤ _
      omega
theorem mem_sum {α : Type} (f : α → Nat) : ∀ (P : List α) (x : α), x ∈ P → f x ≤ (P.map f).sum
  | [], x, h => by cases h
  | y :: r, x, h => by
    rw [List.map_cons, List.sum_cons]
    rcases List.mem_cons.1 h with rfl | h
    · omega
    · have := mem_sum f r x h
      omega
theorem up_ents {H : Type} {enc : TypeId × Value → H} {W : World} {fuel : Nat} {cs : List Value} {x : DataW H × List MemPlace} (h : DataW.trod enc Try.prog W 0 (fun _ => true) true fuel 22 cs = some x) :
    ∃ (a : Option Addr) (n c : Nat) (P : List En), cs = [.slice a n c] ∧ SlY yE W a n c P ∧ (∀ q ∈ P, q.fits) ∧ (P.map fun q => q.o.v.size + 1).sum + 1 ≤ Rows.uptoBulk x.1 := by
  haveI : Inhabited En := ⟨⟨0, 0, ⟨0, 0, ByteArray.empty⟩⟩⟩
  exact open_up kE (fun q => q.fits) (fun q => q.o.v.size + 1) cellsE20 (fun {n cs x} h => up_enc h) h
end Go.Proofs.Ytomiifnhcojilaa
namespace Go.Proofs.Ytomiifnhcojilaa
open Go.ChangeShapes Go.WideShapes Go.ChangeAt Go.RowKit Go.Maps
open Classical
theorem u8_wf20 {n : Int} (h : (Lit.int .u8 n).wf = true) : 0 ≤ n ∧ n < 256 := by
  simp [Lit.wf, IntKind.min, IntKind.max, IntKind.signed, IntKind.bits] at h
  omega
theorem open_hashc20 {H : Type} {enc : TypeId × Value → H} {W : World} {base : Nat} {sp : Nat → Bool} {held : Bool} {n : Nat} {cl : List Value} {x : DataW H × List MemPlace} (hf : DataW.trod enc Try.prog W base sp held n 24 cl = some x) :
    ∃ o : Hs, True ∧ cl = o.cs := by
  obtain ⟨xs, m, _, _, hl, hx, he⟩ := DataW.trod_array Try.underlying24 hf
  have c32 : Try.prog.cellsOf 24 = 32 := by kernel_rfl
  have c1 : Try.prog.cellsOf 5 = 1 := by kernel_rfl
  rw [c32] at hl
  have hcl : cl.length = 32 := hl
  have key : ∀ i, (hi : i < 32) → ∃ n : Int, cl[i]? = some (.int .u8 n) ∧ 0 ≤ n ∧ n < 256 := fun i hi => by
    have h1 := he i hi
    rw [c1, Nat.mul_one] at h1
    obtain ⟨x, hxx⟩ : ∃ x, xs[i]? = some x := ⟨_, List.getElem?_eq_getElem (by omega)⟩
    rw [hxx] at h1
    obtain ⟨K, hK, _, hw⟩ := DataW.trod_int Try.underlying5 h1
    have hb := u8_wf20 hw
    refine ⟨K, ?_, hb.1, hb.2⟩
    have h2 : (cl.drop i).take 1 = [.int .u8 K] := hK
    have h3 : ((cl.drop i).take 1)[0]? = some (.int .u8 K) := by rw [h2]; rfl
    rw [List.getElem?_take, if_pos (by decide), List.getElem?_drop, Nat.add_zero] at h3
    exact h3
  refine ⟨⟨cl.map intOf, by rw [List.length_map, hcl], fun x hx => ?_⟩, trivial, ?_⟩
  rotate_left
  · have : (cl.map intOf).map bV = cl := by
      apply List.ext_getElem?
      intro i
      rw [List.getElem?_map, List.getElem?_map]
      by_cases hi : i < 32
      · obtain ⟨n, hn, _⟩ := key i hi
        rw [hn]
        rfl
      · rw [List.getElem?_eq_none (by omega)]
        rfl
    exact this.symm
  · obtain ⟨u, hu, rfl⟩ := List.mem_map.1 hx
    obtain ⟨i, hi, rfl⟩ := List.mem_iff_getElem.1 hu
    obtain ⟨n, hn, h0, h1⟩ := key i (by omega)
    rw [List.getElem?_eq_getElem hi] at hn
    rw [Option.some.inj hn]
    exact ⟨h0, h1⟩
theorem hCells20 : Try.prog.cellsOf 24 = 32 := by kernel_rfl
end Go.Proofs.Ytomiifnhcojilaa
namespace Go.Proofs.Ytomiifnhcojilaa
open Go.ChangeShapes Go.WideShapes Go.RowKit
open Classical
theorem bulk_pos {H : Type} (d : DataW H) : 1 ≤ Rows.uptoBulk d := by
  cases d with
  | lit l => cases l <;> simp [Rows.uptoBulk]
  | _ => simp [Rows.uptoBulk]
theorem sum_one20 {α : Type} : ∀ P : List α, (P.map (fun _ => 1)).sum = P.length
  | [] => rfl
  | x :: r => by rw [List.map_cons, List.sum_cons, sum_one20 r, List.length_cons]; omega
theorem up_hashes {H : Type} {enc : TypeId × Value → H} {W : World} {fuel : Nat} {cs : List Value} {x : DataW H × List MemPlace} (h : DataW.trod enc Try.prog W 0 (fun _ => true) true fuel 42 cs = some x) :
    ∃ (a : Option Addr) (n c : Nat) (P : List Hs), cs = [.slice a n c] ∧ SlY yH W a n c P ∧ P.length + 1 ≤ Rows.uptoBulk x.1 := by
  haveI : Inhabited Hs := ⟨zH⟩
  obtain ⟨a, n, c, P, h1, h2, _, h4⟩ := open_up kH (fun _ => True) (fun _ => 1) hCells20 (fun {n cs x} h => by
    obtain ⟨o, _, ho⟩ := open_hashc20 h
    exact ⟨o, trivial, ho, bulk_pos _⟩) h
  exact ⟨a, n, c, P, h1, h2, by rw [← sum_one20 P]; exact h4⟩
end Go.Proofs.Ytomiifnhcojilaa
namespace Go.Proofs.Ytomiifnhcojilaa
open Go.RowKit Go.Maps
open Classical
theorem neEZ20 (x y : Operand) (a b : Int) (w : World) : (do eqGuard .neq 43 x y (.int .i64 a) (.int .i64 b); binOp .neq 43 (.int .i64 a) (.int .i64 b) : Sem Value).run Try.prog w = .ok (.bool (!decide (a = b))) w := by
  by_cases h : a = b
  · subst h; rw [decide_eq_true rfl]; exact neEF x y a w
  · rw [decide_eq_false h]; go_simp
theorem fewN20 (l : List En) (a : Option Addr) (n0 n c : Nat) (w : World) (h : SlY yE w a n0 c l) (hn : n = min n0 200) :
    Calls Try.prog 31 #[.slice a n0 c] w fun e w' => e = .returned (.slice a n c) ∧ w' = w := by
  subst hn
  exact few20 l a n0 c w h
end Go.Proofs.Ytomiifnhcojilaa
namespace Go.Proofs.Ytomiifnhcojilaa
open Go.RowKit Go.Maps
open Classical
end Go.Proofs.Ytomiifnhcojilaa
