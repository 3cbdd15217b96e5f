import Derived.Test.YtnhonkgondljjaaSu
import Derived.Test.YtnhonkgondljjaaSws
import Derived.Test.YtnhonkgondljjaaSwo
namespace Go.Proofs.Ytnhonkgondljjaa
open Go.RowKit Go.Maps
open Classical
set_option linter.unusedVariables false
set_option linter.unusedSimpArgs false

/-- What the law's list is. -/
def GS8 (N : Nat) (W : World) (L : List An) : Prop := Good N (L.map (·.n)) ∧ (∀ x ∈ L, 0 ≤ x.v) ∧ ∀ x ∈ L, x.In W
theorem GS8.put {N : Nat} {w w' : World} {L R : List An} {x0 : An} {B : Nat} (h : GS8 N w L) (h0 : 0 ≤ x0.n) (h1 : x0.n < (N : Int)) (h2 : 0 ≤ x0.v) (ht : An.Tolds B w' (An.put L x0) R) : GS8 N w' R := by
  have hidx : ∀ y ∈ R, ∃ x ∈ An.put L x0, An.Told B w' x y := fun y hy => by
    obtain ⟨i, hi, rfl⟩ := List.mem_iff_getElem.1 hy
    have hi2 : i < (An.put L x0).length := by rw [← ht.1]; exact hi
    exact ⟨_, List.getElem_mem hi2, ht.2 i _ _ (List.getElem?_eq_getElem hi2) (List.getElem?_eq_getElem hi)⟩
  have hmap : R.map (·.n) = (An.put L x0).map (·.n) := by
    apply List.ext_getElem (by simp [ht.1])
    intro i h1 h2
    simp only [List.getElem_map]
    simp only [List.length_map] at h1 h2
    exact (ht.2 i _ _ (List.getElem?_eq_getElem h2) (List.getElem?_eq_getElem h1)).D.2.1
  refine ⟨?_, fun y hy => ?_, fun y hy => ?_⟩
  · rw [hmap, An.put_n]
    exact h.1.ins h0 h1
  · obtain ⟨x, hx, hxy⟩ := hidx y hy
    obtain ⟨_, _, _, _, e2, _⟩ := hxy.D
    rw [e2]
    rcases An.mem_put L _ x hx with hx | rfl
    · exact h.2.1 x hx
    · exact h2
  · obtain ⟨x, hx, hxy⟩ := hidx y hy
    exact hxy.In
theorem mx_neg {L : List An} (h : ∀ x ∈ L, 0 ≤ x.v) (hne : L ≠ []) : mxA (-1) L = mxv L := by
  cases L with
  | nil => exact absurd rfl hne
  | cons x r =>
    have := h x (List.mem_cons_self ..)
    show mxA (if -1 < x.v then x.v else -1) r = mxA (if x.v < x.v then x.v else x.v) r
    rw [if_pos (by omega), if_neg (by omega)]
/-- The first answer that the law finds is the one that settles. -/
theorem stl_first {F : Nat} {L : List An} {p : Nat} {x : An} (hF1 : 1 ≤ F) (hF3 : F ≤ 3) (hF : F < L.length) (hx : L[p]? = some x) (hv : x.v = mxv L) (hn : x.n = mxv L % (2 * (F : Int) + 1)) (hb : ∀ (i : Nat) (y : An), i < p → L[i]? = some y → ¬ (F < L.length) ∨ y.v ≠ mxv L ∨ y.n ≠ mxv L % (2 * (F : Int) + 1)) : stl (F : Int) L = some x := by
  unfold stl
  rw [if_neg (by omega)]
  obtain ⟨hp, rfl⟩ := List.getElem?_eq_some_iff.1 hx
  rw [List.find?_eq_some_iff_getElem]
  refine ⟨by simp [hv, hn], p, hp, rfl, fun j hj => ?_⟩
  rcases hb j _ hj (List.getElem?_eq_getElem (by omega)) with h | h | h
  · exact absurd hF h
  · simp [h]
  · simp [h]
theorem stl_no {F : Nat} {L : List An} (hF1 : 1 ≤ F) (hF3 : F ≤ 3) (hb : ∀ (i : Nat) (y : An), L[i]? = some y → ¬ (F < L.length) ∨ y.v ≠ mxv L ∨ y.n ≠ mxv L % (2 * (F : Int) + 1)) : stl (F : Int) L = none := by
  unfold stl
  by_cases hF : F < L.length
  · rw [if_neg (by omega), List.find?_eq_none]
    intro x hx
    obtain ⟨i, hi, rfl⟩ := List.mem_iff_getElem.1 hx
    rcases hb i _ (List.getElem?_eq_getElem hi) with h | h | h
    · exact absurd hF h
    · simp [h]
    · simp [h]
  · rw [if_pos (by omega)]
theorem An.like_self (x : An) : An.Like x x := ⟨rfl, rfl, rfl, rfl, rfl, rfl⟩
set_option maxRecDepth 100000 in
set_option maxHeartbeats 4000000 in
theorem settled_walk (f : Int) (Vs : List An) (a1 : Option Addr) (n1 c1 : Nat) (w : World) (h1 : SlY yAnA w a1 n1 c1 Vs) (hfit : ∀ x ∈ Vs, x.In w) :
    Calls Try.prog 10 #[.int .i64 f, .slice a1 n1 c1] w fun e w' => e = .returned (.bool true) ∧ Below w.heap.size w w' := by
  have hm1 := h1.max
  have hc1 := h1.cap
  unfold maxLen at hm1
  have H1 := hide h1
  have N1 := hide h1.len
  have HF := hide hfit
  clear h1 hfit
  go_enter Try.func10, Try.ntmps10
  go_wp2_with fail
  refine (works8_any w).mono ?_
  rintro e w1 ⟨rfl, b1⟩
  dsimp only
  go_wp2_with fail
  refine (show Calls Try.prog 31 #[.int .i64 f, .int .i64 2] w1 fun e w' => e = .returned (.int .i64 (f % 3)) ∧ w' = w1 from within8_any f 2 w1 (by omega) (by omega)).mono ?_
  rintro e w1' ⟨rfl, rfl⟩
  obtain ⟨F, hF⟩ : ∃ F : Nat, (F : Int) = 1 + f % 3 := ⟨(1 + f % 3).toNat, by omega⟩
  have hF1 : 1 ≤ F := by omega
  have hF3 : F ≤ 3 := by omega
  have hwF : IntKind.i64.wrap (1 + f % 3) = (F : Int) := by rw [IntKind.wrap_i64]; omega
  clear hF
  dsimp only
  have hw2F : IntKind.i64.wrap (2 * (F : Int)) = 2 * (F : Int) := by rw [IntKind.wrap_i64]; omega
  go_wp2_with fail
  go_loopw [6, 5] (fun i m wr => ∃ (k : Nat) (aa : Option Addr) (ca : Nat) (As : List An), i = .int .i64 (k : Int) ∧ k ≤ n1 ∧ m = .slice aa As.length ca ∧ Hid (SlY yAnA wr aa As.length ca As) ∧ Hid (GS8 (2 * F + 1) wr As) ∧ Below w.heap.size w wr) (fun i _ _ => n1 - (intOf i).toNat)
  case atStart => exact ⟨0, none, 0, [], rfl, Nat.zero_le _, rfl, SlY.none_ _ _, ⟨good_nil _, fun x hx => (by cases hx), fun x hx => (by cases hx)⟩, b1⟩
  case round =>
    obtain ⟨k, aa, ca, As, rfl, hk, rfl, hA, hGA, hbl⟩ := hrel
    have hsz := hbl.size
    have hlenA : Hid (As.length ≤ 2 * F + 1) := by
      show _ ≤ _
      have := hGA.out.1.len
      rw [List.length_map] at this
      exact this
    have hacap := hA.out.cap
    have hamax := hA.out.max
    unfold maxLen at hamax
    by_cases hlt : k < n1
    · have hjl : k < Vs.length := by rw [N1.out]; exact hlt
      have hg : Vs[k]? = some Vs[k] := List.getElem?_eq_getElem hjl
      obtain ⟨q, o, rfl, hq, y0, y1, y2, y3, y4, y5⟩ := (H1.out.later hbl).AnA hg
      have hin := (HF.out _ (List.getElem_mem hjl)).later hbl
      clear hg
      generalize Vs[k] = x at *
      have cw1 := hide (fun W => within8_any x.n (2 * (F : Int)) W (by omega) (by omega))
      have hx0 := Int.emod_nonneg x.n (b := 2 * (F : Int) + 1) (by omega)
      have hx1 := Int.emod_lt_of_pos x.n (b := 2 * (F : Int) + 1) (by omega)
      have cw2 : Hid (∀ W, Calls Try.prog 31 #[.int .i64 x.v, .int .i64 20] W fun e w' => e = .returned (.int .i64 (x.v % 21)) ∧ w' = W) := fun W => within8_any x.v 20 W (by omega) (by omega)
      have hv0 := Int.emod_nonneg x.v (b := 21) (by omega)
      generalize x.n % (2 * (F : Int) + 1) = V1 at *
      generalize x.v % 21 = V2 at *
      have cp : Hid (∀ W, Below wr.heap.size wr W → Calls Try.prog 36 #[.slice aa As.length ca, .agg #[.int .i64 V1, .int .u64 x.h, .int .u64 x.l, .int .i64 V2, .int .i64 x.c, .slice x.s.a x.s.D.length x.s.c]] W fun e w' => ∃ (v : Value) (R : List An), e = .returned v ∧ OwnY yAnA W.heap.size w' v R ∧ GS8 (2 * F + 1) w' R ∧ Below wr.heap.size wr w') := fun W hW => by
        refine (An.Put_any As ⟨V1, x.h, x.l, V2, x.c, x.s⟩ aa As.length ca W (hA.out.later hW) (fun y hy => (hGA.out.2.2 y hy).later hW) (hin.later hW) (by have := hlenA.out; omega)).mono fun e w' h => ?_
        obtain ⟨v, R, rfl, o2, t2, b2⟩ := h
        exact ⟨v, R, rfl, o2, hGA.out.put hx0 (by show V1 < ((2 * F + 1 : Nat) : Int); omega) hv0 t2, hW.trans (b2.mono hW.size)⟩
      clear hA hGA hin
      go_wp2_with fail
      refine (cw1.out _).mono ?_
      rintro e w1' ⟨rfl, rfl⟩
      dsimp only
      go_wp2_with fail
      refine (cw2.out _).mono ?_
      rintro e w1' ⟨rfl, rfl⟩
      dsimp only
      go_wp2_with fail
      refine (cp.out _ (by repeat (first | exact Below.refl _ _ | refine Below.setCell ?_ (by simp) _ | refine Below.alloc ?_ (by simp) _))).mono ?_
      rintro e w2 ⟨v2, R2, rfl, o2, g2, b2⟩
      obtain ⟨aa2, ca2, rfl, s2, _⟩ := o2.sl kAnA
      have S2 := hide s2
      have G2 := hide g2
      have B2 := hide (hbl.trans (b2.mono hsz))
      clear o2 s2 b2 g2 cp cw1 cw2 y0 y1 y2 y3 y4 y5
      dsimp only
      go_wp2
      go_round
      case rel => exact ⟨k + 1, aa2, ca2, R2, by go_num, by omega, rfl, S2, G2, B2.out⟩
      case measure => simp [intOf]; omega
    · obtain rfl : k = n1 := by omega
      have cs := hide (settle_any (F : Int) As aa As.length ca wr hA.out hGA.out.2.2)
      go_wp2_with fail
      refine cs.out.mono ?_
      rintro e w2 ⟨hout, b2⟩
      have hz2 := b2.size
      have B5 := hide (hbl.trans (b2.mono hsz))
      have SA2 := hide (hA.out.later b2)
      have IA2 : Hid (∀ x ∈ As, x.In w2) := fun x hx => (hGA.out.2.2 x hx).later b2
      have GV := hide hGA.out.2.1
      obtain ⟨y, E, he, hy, hyin⟩ : ∃ (y : An) (E : Int), e = .returned (.tuple #[y.val, .int .i64 E]) ∧ ((stl (F : Int) As = none ∧ E = 81 ∧ y = ⟨0, 0, 0, 0, 0, ⟨none, 0, []⟩⟩) ∨ (∃ x, stl (F : Int) As = some x ∧ E = 0 ∧ An.Like x y)) ∧ y.In w2 := by
        cases ho : stl (F : Int) As with
        | none =>
          rw [ho] at hout
          exact ⟨⟨0, 0, 0, 0, 0, ⟨none, 0, []⟩⟩, 81, hout, .inl ⟨rfl, rfl, rfl⟩, An.In_nil _ rfl⟩
        | some x =>
          rw [ho] at hout
          obtain ⟨y, e1, t⟩ := hout
          exact ⟨y, 0, e1, .inr ⟨x, rfl, rfl, t.like⟩, t.In⟩
      subst he
      have HY := hide hy
      have b3 : Below w2.heap.size w2 (w2.alloc (.cells #[.int .i64 y.n, .int .u64 y.h, .int .u64 y.l, .int .i64 y.v, .int .i64 y.c, .slice y.s.a y.s.D.length y.s.c] 68)) := (Below.refl _ _).alloc (Nat.le_refl _) _
      have SA3 := hide (SA2.out.later b3)
      have IA3 : Hid (∀ x ∈ As, x.In (w2.alloc (.cells #[.int .i64 y.n, .int .u64 y.h, .int .u64 y.l, .int .i64 y.v, .int .i64 y.c, .slice y.s.a y.s.D.length y.s.c] 68))) := fun x hx => (IA2.out x hx).later b3
      have YI3 := hide (hyin.later b3)
      have B6 := hide (B5.out.trans (b3.mono (by omega)))
      have bz : Hid ((w2.alloc (.cells #[.int .i64 y.n, .int .u64 y.h, .int .u64 y.l, .int .i64 y.v, .int .i64 y.c, .slice y.s.a y.s.D.length y.s.c] 68)).heap.size = w2.heap.size + 1) := by show _ = _; simp
      have cb : Hid ((w2.alloc (.cells #[.int .i64 y.n, .int .u64 y.h, .int .u64 y.l, .int .i64 y.v, .int .i64 y.c, .slice y.s.a y.s.D.length y.s.c] 68)).cell? ⟨w2.heap.size, 0, none⟩ = some (.int .i64 y.n) ∧ (w2.alloc (.cells #[.int .i64 y.n, .int .u64 y.h, .int .u64 y.l, .int .i64 y.v, .int .i64 y.c, .slice y.s.a y.s.D.length y.s.c] 68)).cell? ⟨w2.heap.size, 1, none⟩ = some (.int .u64 y.h) ∧ (w2.alloc (.cells #[.int .i64 y.n, .int .u64 y.h, .int .u64 y.l, .int .i64 y.v, .int .i64 y.c, .slice y.s.a y.s.D.length y.s.c] 68)).cell? ⟨w2.heap.size, 2, none⟩ = some (.int .u64 y.l) ∧ (w2.alloc (.cells #[.int .i64 y.n, .int .u64 y.h, .int .u64 y.l, .int .i64 y.v, .int .i64 y.c, .slice y.s.a y.s.D.length y.s.c] 68)).cell? ⟨w2.heap.size, 3, none⟩ = some (.int .i64 y.v) ∧ (w2.alloc (.cells #[.int .i64 y.n, .int .u64 y.h, .int .u64 y.l, .int .i64 y.v, .int .i64 y.c, .slice y.s.a y.s.D.length y.s.c] 68)).cell? ⟨w2.heap.size, 4, none⟩ = some (.int .i64 y.c) ∧ (w2.alloc (.cells #[.int .i64 y.n, .int .u64 y.h, .int .u64 y.l, .int .i64 y.v, .int .i64 y.c, .slice y.s.a y.s.D.length y.s.c] 68)).cell? ⟨w2.heap.size, 5, none⟩ = some (.slice y.s.a y.s.D.length y.s.c)) := ⟨by simp, by simp, by simp, by simp, by simp, by simp⟩
      clear cs b2 hbl hout b3 SA2 IA2 hyin hy B5 hA hGA
      unfold An.val
      dsimp only
      go_wp2_with fail
      generalize w2.alloc (.cells #[.int .i64 y.n, .int .u64 y.h, .int .u64 y.l, .int .i64 y.v, .int .i64 y.c, .slice y.s.a y.s.D.length y.s.c] 68) = w3 at *
      go_loopw [11, 10] (fun i m wr => ∃ (j : Nat) (M : Int), i = .int .i64 (j : Int) ∧ j ≤ As.length ∧ m = .int .i64 M ∧ Hid (mxA (-1) As = mxA M (As.drop j)) ∧ wr = w3) (fun i _ _ => As.length - (intOf i).toNat)
      case atStart => exact ⟨0, -1, rfl, Nat.zero_le _, rfl, rfl, rfl⟩
      case round =>
        obtain ⟨j, M, rfl, hj, rfl, hM, hwr⟩ := hrel
        have hwr := hwr.symm
        subst hwr
        by_cases hlt2 : j < As.length
        · have hg : As[j]? = some As[j] := List.getElem?_eq_getElem hlt2
          obtain ⟨q, o, rfl, hq, y0, y1, y2, y3, y4, y5⟩ := SA3.out.AnA hg
          have hM1 : Hid (mxA (-1) As = mxA (if M < As[j].v then As[j].v else M) (As.drop (j + 1))) := by show _ = _; rw [hM.out, mxA_drop hlt2]
          clear hg hM y0 y1 y2 y4 y5
          generalize As[j] = x at *
          go_wp2
          go_round
          case rel => exact ⟨j + 1, if M < x.v then x.v else M, by go_num, by omega, rfl, hM1, trivial⟩
          case measure => simp [intOf]; omega
        · obtain rfl : j = As.length := by omega
          have hMV : Hid (mxA (-1) As = M) := by show _ = _; rw [hM.out, List.drop_of_length_le (Nat.le_refl _), mxA]
          clear hM
          have hMX : Hid (As ≠ [] → M = mxv As ∧ 0 ≤ M) := fun hne => by
            have e : M = mxv As := by rw [← hMV.out]; exact mx_neg GV.out hne
            obtain ⟨x, hx, e2⟩ := mxv_mem hne
            exact ⟨e, by rw [e, ← e2]; exact GV.out x hx⟩
          clear hMV GV
          go_wp2_with fail
          go_loopw [12] (fun i wr => ∃ (p d : Nat), i = .int .i64 (p : Int) ∧ p ≤ As.length ∧ Hid (∀ (i : Nat) (x : An), i < p → As[i]? = some x → ¬ (F < As.length) ∨ x.v ≠ M ∨ x.n ≠ M % (2 * (F : Int) + 1)) ∧ wr = w3.drewN d) (fun i _ => As.length - (intOf i).toNat)
          case atStart => exact ⟨0, 0, rfl, Nat.zero_le _, fun i x h => absurd h (Nat.not_lt_zero _), rfl⟩
          case round =>
            obtain ⟨p, d, rfl, hp, hP, rfl⟩ := hrel
            by_cases hpl : p < As.length
            · have hg : As[p]? = some As[p] := List.getElem?_eq_getElem hpl
              obtain ⟨q, o, rfl, hq, y0, _, _, y3, _, _⟩ := SA3.out.AnA hg
              have KC : Hid (∀ v, (∃ k, v = w3.drewN k) → v.cell? ⟨q, o + p * 6, none⟩ = some (.int .i64 As[p].n) ∧ v.cell? ⟨q, o + p * 6 + 3, none⟩ = some (.int .i64 As[p].v)) := fun v hv => by
                obtain ⟨k, rfl⟩ := hv
                exact ⟨y0, y3⟩
              have HG := hide hg
              have hIx := hide (IA3.out _ (List.getElem_mem hpl))
              clear hg y0 y3
              generalize As[p] = x at *
              have hM0 : 0 ≤ M := (hMX.out (fun e => by rw [e] at hpl; exact absurd hpl (Nat.not_lt_zero _))).2
              have hMe : Hid (M = mxv As) := (hMX.out (fun e => by rw [e] at hpl; exact absurd hpl (Nat.not_lt_zero _))).1
              have hw4 : IntKind.i64.wrap (2 * (F : Int) + 1) = 2 * (F : Int) + 1 := by rw [IntKind.wrap_i64]; omega
              have hz4 : (2 * (F : Int) + 1 == 0) = false := by simp; omega
              have hz5 : ¬ (2 * (F : Int) + 1 = 0) := by omega
              have htm : Int.tmod M (2 * (F : Int) + 1) = M % (2 * (F : Int) + 1) := Int.tmod_eq_emod_of_nonneg hM0
              have hr0 := Int.emod_nonneg M (b := 2 * (F : Int) + 1) (by omega)
              have hr1 := Int.emod_lt_of_pos M (b := 2 * (F : Int) + 1) (by omega)
              have hrw : IntKind.i64.wrap (M % (2 * (F : Int) + 1)) = M % (2 * (F : Int) + 1) := by rw [IntKind.wrap_i64]; omega
              generalize hPR : M % (2 * (F : Int) + 1) = PR at *
              go_wp2_with fail
              by_cases hFl : F < As.length
              · have hFI : (F : Int) < (As.length : Int) := by omega
                by_cases hxv : x.v = M
                · have hb1 : (x.v == M) = true := by simp [hxv]
                  by_cases hxn : x.n = PR
                  · have hb2 : (x.n == PR) = true := by simp [hxn]
                    have hst : Hid (stl (F : Int) As = some x) := stl_first hF1 hF3 hFl HG.out (hxv.trans hMe.out) (by rw [hxn, ← hPR, hMe.out]) (fun i y hi hy => by
                      have := hP.out i y hi hy
                      rw [← hPR, hMe.out] at this
                      exact this)
                    obtain ⟨hE, hlk⟩ : E = 0 ∧ An.Like x y := by
                      rcases HY.out with ⟨h, _⟩ | ⟨x', h, h2, h3⟩
                      · rw [hst.out] at h; cases h
                      · rw [hst.out] at h; cases h; exact ⟨h2, h3⟩
                    subst hE
                    clear hxv hxn
                    refine region_q9 (C := fun v => ∃ k, v = w3.drewN k) (by kernel_rfl) (by kernel_rfl) ⟨d + 1, rfl⟩ ?_
                    refine wqv (u := .slice (some ⟨q, o, none⟩) As.length ca) (by kernel_rfl) (fun v hv => by kernel_rfl) ?_
                    simp only [Act.put, List.setIfInBounds_toArray, List.set_cons_zero, List.set_cons_succ]
                    refine wqv (u := .int .i64 (As.length : Int)) (by kernel_rfl) (fun v hv => by go_simp) ?_
                    simp only [Act.put, List.setIfInBounds_toArray, List.set_cons_zero, List.set_cons_succ]
                    refine wqv (u := .int .i64 (F : Int)) (by kernel_rfl) (fun v hv => by kernel_rfl) ?_
                    simp only [Act.put, List.setIfInBounds_toArray, List.set_cons_zero, List.set_cons_succ]
                    refine wqv (u := .bool true) (by kernel_rfl) (fun v hv => by go_simp) ?_
                    simp only [Act.put, List.setIfInBounds_toArray, List.set_cons_zero, List.set_cons_succ]
                    refine wqv (u := .bool true) (by kernel_rfl) (fun v hv => by kernel_rfl) ?_
                    simp only [Act.put, List.setIfInBounds_toArray, List.set_cons_zero, List.set_cons_succ]
                    refine wqv (u := .slice (some ⟨q, o, none⟩) As.length ca) (by kernel_rfl) (fun v hv => by kernel_rfl) ?_
                    simp only [Act.put, List.setIfInBounds_toArray, List.set_cons_zero, List.set_cons_succ]
                    refine wqv (u := .int .i64 (p : Int)) (by kernel_rfl) (fun v hv => by kernel_rfl) ?_
                    simp only [Act.put, List.setIfInBounds_toArray, List.set_cons_zero, List.set_cons_succ]
                    refine wqv (u := .pointer (some ⟨q, o + p * 6, none⟩)) (by kernel_rfl) (fun v hv => by go_simp) ?_
                    simp only [Act.put, List.setIfInBounds_toArray, List.set_cons_zero, List.set_cons_succ]
                    refine wqv (u := .pointer (some ⟨q, o + p * 6 + 3, none⟩)) (by kernel_rfl) (fun v hv => by go_simp) ?_
                    simp only [Act.put, List.setIfInBounds_toArray, List.set_cons_zero, List.set_cons_succ]
                    refine wqv (u := .int .i64 x.v) (by kernel_rfl) (fun v hv => by obtain ⟨y0, y3⟩ := KC.out v hv; go_simp) ?_
                    simp only [Act.put, List.setIfInBounds_toArray, List.set_cons_zero, List.set_cons_succ]
                    refine wqv (u := .int .i64 M) (by kernel_rfl) (fun v hv => by kernel_rfl) ?_
                    simp only [Act.put, List.setIfInBounds_toArray, List.set_cons_zero, List.set_cons_succ]
                    refine wqv (u := .bool true) (by kernel_rfl) (fun v hv => by go_simp) ?_
                    simp only [Act.put, List.setIfInBounds_toArray, List.set_cons_zero, List.set_cons_succ]
                    refine wqv (u := .bool true) (by kernel_rfl) (fun v hv => by kernel_rfl) ?_
                    simp only [Act.put, List.setIfInBounds_toArray, List.set_cons_zero, List.set_cons_succ]
                    refine wqv (u := .bool true) (by kernel_rfl) (fun v hv => by kernel_rfl) ?_
                    simp only [Act.put, List.setIfInBounds_toArray, List.set_cons_zero, List.set_cons_succ]
                    refine wqv (u := .slice (some ⟨q, o, none⟩) As.length ca) (by kernel_rfl) (fun v hv => by kernel_rfl) ?_
                    simp only [Act.put, List.setIfInBounds_toArray, List.set_cons_zero, List.set_cons_succ]
                    refine wqv (u := .int .i64 (p : Int)) (by kernel_rfl) (fun v hv => by kernel_rfl) ?_
                    simp only [Act.put, List.setIfInBounds_toArray, List.set_cons_zero, List.set_cons_succ]
                    refine wqv (u := .pointer (some ⟨q, o + p * 6, none⟩)) (by kernel_rfl) (fun v hv => by go_simp) ?_
                    simp only [Act.put, List.setIfInBounds_toArray, List.set_cons_zero, List.set_cons_succ]
                    refine wqv (u := .pointer (some ⟨q, o + p * 6, none⟩)) (by kernel_rfl) (fun v hv => by go_simp) ?_
                    simp only [Act.put, List.setIfInBounds_toArray, List.set_cons_zero, List.set_cons_succ]
                    refine wqv (u := .int .i64 x.n) (by kernel_rfl) (fun v hv => by obtain ⟨y0, y3⟩ := KC.out v hv; go_simp) ?_
                    simp only [Act.put, List.setIfInBounds_toArray, List.set_cons_zero, List.set_cons_succ]
                    refine wqv (u := .int .i64 M) (by kernel_rfl) (fun v hv => by kernel_rfl) ?_
                    simp only [Act.put, List.setIfInBounds_toArray, List.set_cons_zero, List.set_cons_succ]
                    refine wqv (u := .int .i64 (F : Int)) (by kernel_rfl) (fun v hv => by kernel_rfl) ?_
                    simp only [Act.put, List.setIfInBounds_toArray, List.set_cons_zero, List.set_cons_succ]
                    refine wqv (u := .int .i64 (2 * (F : Int))) (by kernel_rfl) (fun v hv => by go_simp) ?_
                    simp only [Act.put, List.setIfInBounds_toArray, List.set_cons_zero, List.set_cons_succ]
                    refine wqv (u := .int .i64 (2 * (F : Int) + 1)) (by kernel_rfl) (fun v hv => by go_simp) ?_
                    simp only [Act.put, List.setIfInBounds_toArray, List.set_cons_zero, List.set_cons_succ]
                    refine wqv (u := .int .i64 PR) (by kernel_rfl) (fun v hv => by go_simp) ?_
                    simp only [Act.put, List.setIfInBounds_toArray, List.set_cons_zero, List.set_cons_succ]
                    refine wqv (u := .bool true) (by kernel_rfl) (fun v hv => by go_simp) ?_
                    simp only [Act.put, List.setIfInBounds_toArray, List.set_cons_zero, List.set_cons_succ]
                    refine wqv (u := .bool true) (by kernel_rfl) (fun v hv => by kernel_rfl) ?_
                    simp only [Act.put, List.setIfInBounds_toArray, List.set_cons_zero, List.set_cons_succ]
                    refine wqnil (fun v hv => ?_)
                    obtain ⟨d2, rfl⟩ := hv

                    have SX : Hid (∀ V, Below w3.heap.size w3 V → SlY yAnA V (some ⟨q, o + p * 6, none⟩) 1 (ca - p) [x]) := fun V hV => by
                      have r1 := (SA3.out.rest p hpl).later hV
                      have r2 := r1.take 1 (by omega)
                      have e : (As.drop p).take 1 = [x] := by
                        have hx2 := HG.out
                        obtain ⟨hp2, rfl⟩ := List.getElem?_eq_some_iff.1 hx2
                        rw [List.drop_eq_getElem_cons hp2]
                        rfl
                      rw [e] at r2
                      exact r2
                    have hlk2 : Hid (An.Like y x) := ⟨hlk.1.symm, hlk.2.1.symm, hlk.2.2.1.symm, hlk.2.2.2.1.symm, hlk.2.2.2.2.1.symm, hlk.2.2.2.2.2.symm⟩
                    have cs : Hid (∀ V, Below (w3.heap.size + 1) ((w3.drewN (d2 + 1)).alloc (.cells #[.int .i64 y.n, .int .u64 y.h, .int .u64 y.l, .int .i64 y.v, .int .i64 y.c, .slice y.s.a y.s.D.length y.s.c] 68)) V → Calls Try.prog 37 #[.slice (some ⟨w3.heap.size, 0, none⟩) 1 1, .slice (some ⟨q, o + p * 6, none⟩) 1 (ca - p)] V fun e w' => e = .returned (.bool true) ∧ Below w.heap.size w w' ∧ ∀ (i : Nat) (u : Value), V.cell? ⟨w2.heap.size, i, none⟩ = some u → w'.cell? ⟨w2.heap.size, i, none⟩ = some u) := fun V hV => by
                      have b0 : Below w3.heap.size w3 ((w3.drewN (d2 + 1)).alloc (.cells #[.int .i64 y.n, .int .u64 y.h, .int .u64 y.l, .int .i64 y.v, .int .i64 y.c, .slice y.s.a y.s.D.length y.s.c] 68)) := (below_drewN (Below.refl _ _) (d2 + 1)).alloc (Nat.le_refl _) _
                      have bV : Below w3.heap.size w3 V := b0.trans (hV.mono (by omega))
                      have hzA : w3.heap.size + 1 = ((w3.drewN (d2 + 1)).alloc (.cells (yAnA.cs y).toArray 68)).heap.size := by rw [World.size_alloc]; rfl
                      have hs1 : SlY yAnA V (some ⟨w3.heap.size, 0, none⟩) 1 1 [y] := (sl_box (Y := yAnA) (w3.drewN (d2 + 1)) y 68).later (hzA ▸ hV)
                      refine (An.same_any [y] [x] _ _ 1 1 (ca - p) V hs1 (SX.out V bV) (fun i a b ha hb => by
                        cases i with
                        | zero => simp at ha hb; subst ha hb; exact hlk2.out
                        | succ i => simp at ha) (fun z hz => by simp at hz; subst hz; exact YI3.out.later bV) (fun z hz => by simp at hz; subst hz; exact hIx.out.later bV)).mono fun e w' h => ?_
                      obtain ⟨rfl, k, rfl⟩ := h
                      exact ⟨rfl, below_drewN (B6.out.trans (bV.mono B6.out.size)) k, fun i u hu => hu⟩
                    have hz23 : w3.heap.size = w2.heap.size + 1 := bz.out
                    have hw5 : IntKind.i64.wrap ((p : Int) + 1) = (p : Int) + 1 := by rw [IntKind.wrap_i64]; omega
                    have hpc : (p : Int) + 1 ≤ (ca : Int) := by omega
                    have hpc2 : p + 1 ≤ ca := by omega
                    have hp0 : (0 : Int) ≤ (p : Int) := by omega
                    have hp1 : (p : Int) ≤ (p : Int) + 1 := by omega
                    have hp2 : (p : Int) ≤ (ca : Int) := by omega
                    have hp3 : p ≤ ca := by omega
                    have hp4 : ¬ (ca = p) := by omega
                    have s0 : (w3.drewN d2).drew.cell? ⟨w2.heap.size, 0, none⟩ = some (.int .i64 y.n) ∧ (w3.drewN d2).drew.cell? ⟨w2.heap.size, 1, none⟩ = some (.int .u64 y.h) ∧ (w3.drewN d2).drew.cell? ⟨w2.heap.size, 2, none⟩ = some (.int .u64 y.l) ∧ (w3.drewN d2).drew.cell? ⟨w2.heap.size, 3, none⟩ = some (.int .i64 y.v) ∧ (w3.drewN d2).drew.cell? ⟨w2.heap.size, 4, none⟩ = some (.int .i64 y.c) ∧ (w3.drewN d2).drew.cell? ⟨w2.heap.size, 5, none⟩ = some (.slice y.s.a y.s.D.length y.s.c) := cb.out
                    have s2 : (w3.drewN (d2 + 1)).cell? ⟨w2.heap.size, 0, none⟩ = some (.int .i64 y.n) ∧ (w3.drewN (d2 + 1)).cell? ⟨w2.heap.size, 1, none⟩ = some (.int .u64 y.h) ∧ (w3.drewN (d2 + 1)).cell? ⟨w2.heap.size, 2, none⟩ = some (.int .u64 y.l) ∧ (w3.drewN (d2 + 1)).cell? ⟨w2.heap.size, 3, none⟩ = some (.int .i64 y.v) ∧ (w3.drewN (d2 + 1)).cell? ⟨w2.heap.size, 4, none⟩ = some (.int .i64 y.c) ∧ (w3.drewN (d2 + 1)).cell? ⟨w2.heap.size, 5, none⟩ = some (.slice y.s.a y.s.D.length y.s.c) := cb.out
                    have s1 : ((w3.drewN (d2 + 1)).alloc (.cells #[.int .i64 y.n, .int .u64 y.h, .int .u64 y.l, .int .i64 y.v, .int .i64 y.c, .slice y.s.a y.s.D.length y.s.c] 68)).cell? ⟨w2.heap.size, 0, none⟩ = some (.int .i64 y.n) ∧ ((w3.drewN (d2 + 1)).alloc (.cells #[.int .i64 y.n, .int .u64 y.h, .int .u64 y.l, .int .i64 y.v, .int .i64 y.c, .slice y.s.a y.s.D.length y.s.c] 68)).cell? ⟨w2.heap.size, 1, none⟩ = some (.int .u64 y.h) ∧ ((w3.drewN (d2 + 1)).alloc (.cells #[.int .i64 y.n, .int .u64 y.h, .int .u64 y.l, .int .i64 y.v, .int .i64 y.c, .slice y.s.a y.s.D.length y.s.c] 68)).cell? ⟨w2.heap.size, 2, none⟩ = some (.int .u64 y.l) ∧ ((w3.drewN (d2 + 1)).alloc (.cells #[.int .i64 y.n, .int .u64 y.h, .int .u64 y.l, .int .i64 y.v, .int .i64 y.c, .slice y.s.a y.s.D.length y.s.c] 68)).cell? ⟨w2.heap.size, 3, none⟩ = some (.int .i64 y.v) ∧ ((w3.drewN (d2 + 1)).alloc (.cells #[.int .i64 y.n, .int .u64 y.h, .int .u64 y.l, .int .i64 y.v, .int .i64 y.c, .slice y.s.a y.s.D.length y.s.c] 68)).cell? ⟨w2.heap.size, 4, none⟩ = some (.int .i64 y.c) ∧ ((w3.drewN (d2 + 1)).alloc (.cells #[.int .i64 y.n, .int .u64 y.h, .int .u64 y.l, .int .i64 y.v, .int .i64 y.c, .slice y.s.a y.s.D.length y.s.c] 68)).cell? ⟨w2.heap.size, 5, none⟩ = some (.slice y.s.a y.s.D.length y.s.c) := by
                      have q : ∀ (i : Nat) (u : Value), w3.cell? ⟨w2.heap.size, i, none⟩ = some u → ((w3.drewN (d2 + 1)).alloc (.cells #[.int .i64 y.n, .int .u64 y.h, .int .u64 y.l, .int .i64 y.v, .int .i64 y.c, .slice y.s.a y.s.D.length y.s.c] 68)).cell? ⟨w2.heap.size, i, none⟩ = some u := fun i u hu => (World.cell?_alloc_lt (w3.drewN (d2 + 1)) _ ⟨w2.heap.size, i, none⟩ (by show w2.heap.size < w3.heap.size; omega)).trans hu
                      obtain ⟨h0, h1, h2, h3, h4, h5⟩ := cb.out
                      exact ⟨q 0 _ h0, q 1 _ h1, q 2 _ h2, q 3 _ h3, q 4 _ h4, q 5 _ h5⟩
                    clear SX hlk2 hlk HY hst hMX hMe KC HG hP hIx SA3 IA3 YI3 hz23
                    go_wp2_with fail
                    go_region_held3 (fun v => v.cell? ⟨w2.heap.size, 0, none⟩ = some (.int .i64 y.n) ∧ v.cell? ⟨w2.heap.size, 1, none⟩ = some (.int .u64 y.h) ∧ v.cell? ⟨w2.heap.size, 2, none⟩ = some (.int .u64 y.l) ∧ v.cell? ⟨w2.heap.size, 3, none⟩ = some (.int .i64 y.v) ∧ v.cell? ⟨w2.heap.size, 4, none⟩ = some (.int .i64 y.c) ∧ v.cell? ⟨w2.heap.size, 5, none⟩ = some (.slice y.s.a y.s.D.length y.s.c)) (with_reducible assumption) (first
                      | (go_at_call 37; refine (cs.out _ (Below.refl _ _)).mono ?_; rintro e w7 ⟨rfl, b7, kc⟩; have s7 := And.intro (kc 0 _ s1.1) (And.intro (kc 1 _ s1.2.1) (And.intro (kc 2 _ s1.2.2.1) (And.intro (kc 3 _ s1.2.2.2.1) (And.intro (kc 4 _ s1.2.2.2.2.1) (kc 5 _ s1.2.2.2.2.2))))); clear kc))
                    go_wp2
                    go_ret
                    exact ⟨rfl, b7⟩
                  · have hb2 : (x.n == PR) = false := by simp [hxn]
                    refine region_q9 (C := fun v => ∃ k, v = w3.drewN k) (by kernel_rfl) (by kernel_rfl) ⟨d + 1, rfl⟩ ?_
                    refine wqv (u := .slice (some ⟨q, o, none⟩) As.length ca) (by kernel_rfl) (fun v hv => by kernel_rfl) ?_
                    simp only [Act.put, List.setIfInBounds_toArray, List.set_cons_zero, List.set_cons_succ]
                    refine wqv (u := .int .i64 (As.length : Int)) (by kernel_rfl) (fun v hv => by go_simp) ?_
                    simp only [Act.put, List.setIfInBounds_toArray, List.set_cons_zero, List.set_cons_succ]
                    refine wqv (u := .int .i64 (F : Int)) (by kernel_rfl) (fun v hv => by kernel_rfl) ?_
                    simp only [Act.put, List.setIfInBounds_toArray, List.set_cons_zero, List.set_cons_succ]
                    refine wqv (u := .bool true) (by kernel_rfl) (fun v hv => by go_simp) ?_
                    simp only [Act.put, List.setIfInBounds_toArray, List.set_cons_zero, List.set_cons_succ]
                    refine wqv (u := .bool true) (by kernel_rfl) (fun v hv => by kernel_rfl) ?_
                    simp only [Act.put, List.setIfInBounds_toArray, List.set_cons_zero, List.set_cons_succ]
                    refine wqv (u := .slice (some ⟨q, o, none⟩) As.length ca) (by kernel_rfl) (fun v hv => by kernel_rfl) ?_
                    simp only [Act.put, List.setIfInBounds_toArray, List.set_cons_zero, List.set_cons_succ]
                    refine wqv (u := .int .i64 (p : Int)) (by kernel_rfl) (fun v hv => by kernel_rfl) ?_
                    simp only [Act.put, List.setIfInBounds_toArray, List.set_cons_zero, List.set_cons_succ]
                    refine wqv (u := .pointer (some ⟨q, o + p * 6, none⟩)) (by kernel_rfl) (fun v hv => by go_simp) ?_
                    simp only [Act.put, List.setIfInBounds_toArray, List.set_cons_zero, List.set_cons_succ]
                    refine wqv (u := .pointer (some ⟨q, o + p * 6 + 3, none⟩)) (by kernel_rfl) (fun v hv => by go_simp) ?_
                    simp only [Act.put, List.setIfInBounds_toArray, List.set_cons_zero, List.set_cons_succ]
                    refine wqv (u := .int .i64 x.v) (by kernel_rfl) (fun v hv => by obtain ⟨y0, y3⟩ := KC.out v hv; go_simp) ?_
                    simp only [Act.put, List.setIfInBounds_toArray, List.set_cons_zero, List.set_cons_succ]
                    refine wqv (u := .int .i64 M) (by kernel_rfl) (fun v hv => by kernel_rfl) ?_
                    simp only [Act.put, List.setIfInBounds_toArray, List.set_cons_zero, List.set_cons_succ]
                    refine wqv (u := .bool true) (by kernel_rfl) (fun v hv => by go_simp) ?_
                    simp only [Act.put, List.setIfInBounds_toArray, List.set_cons_zero, List.set_cons_succ]
                    refine wqv (u := .bool true) (by kernel_rfl) (fun v hv => by kernel_rfl) ?_
                    simp only [Act.put, List.setIfInBounds_toArray, List.set_cons_zero, List.set_cons_succ]
                    refine wqv (u := .bool true) (by kernel_rfl) (fun v hv => by kernel_rfl) ?_
                    simp only [Act.put, List.setIfInBounds_toArray, List.set_cons_zero, List.set_cons_succ]
                    refine wqv (u := .slice (some ⟨q, o, none⟩) As.length ca) (by kernel_rfl) (fun v hv => by kernel_rfl) ?_
                    simp only [Act.put, List.setIfInBounds_toArray, List.set_cons_zero, List.set_cons_succ]
                    refine wqv (u := .int .i64 (p : Int)) (by kernel_rfl) (fun v hv => by kernel_rfl) ?_
                    simp only [Act.put, List.setIfInBounds_toArray, List.set_cons_zero, List.set_cons_succ]
                    refine wqv (u := .pointer (some ⟨q, o + p * 6, none⟩)) (by kernel_rfl) (fun v hv => by go_simp) ?_
                    simp only [Act.put, List.setIfInBounds_toArray, List.set_cons_zero, List.set_cons_succ]
                    refine wqv (u := .pointer (some ⟨q, o + p * 6, none⟩)) (by kernel_rfl) (fun v hv => by go_simp) ?_
                    simp only [Act.put, List.setIfInBounds_toArray, List.set_cons_zero, List.set_cons_succ]
                    refine wqv (u := .int .i64 x.n) (by kernel_rfl) (fun v hv => by obtain ⟨y0, y3⟩ := KC.out v hv; go_simp) ?_
                    simp only [Act.put, List.setIfInBounds_toArray, List.set_cons_zero, List.set_cons_succ]
                    refine wqv (u := .int .i64 M) (by kernel_rfl) (fun v hv => by kernel_rfl) ?_
                    simp only [Act.put, List.setIfInBounds_toArray, List.set_cons_zero, List.set_cons_succ]
                    refine wqv (u := .int .i64 (F : Int)) (by kernel_rfl) (fun v hv => by kernel_rfl) ?_
                    simp only [Act.put, List.setIfInBounds_toArray, List.set_cons_zero, List.set_cons_succ]
                    refine wqv (u := .int .i64 (2 * (F : Int))) (by kernel_rfl) (fun v hv => by go_simp) ?_
                    simp only [Act.put, List.setIfInBounds_toArray, List.set_cons_zero, List.set_cons_succ]
                    refine wqv (u := .int .i64 (2 * (F : Int) + 1)) (by kernel_rfl) (fun v hv => by go_simp) ?_
                    simp only [Act.put, List.setIfInBounds_toArray, List.set_cons_zero, List.set_cons_succ]
                    refine wqv (u := .int .i64 PR) (by kernel_rfl) (fun v hv => by go_simp) ?_
                    simp only [Act.put, List.setIfInBounds_toArray, List.set_cons_zero, List.set_cons_succ]
                    refine wqv (u := .bool false) (by kernel_rfl) (fun v hv => by go_simp) ?_
                    simp only [Act.put, List.setIfInBounds_toArray, List.set_cons_zero, List.set_cons_succ]
                    refine wqv (u := .bool false) (by kernel_rfl) (fun v hv => by kernel_rfl) ?_
                    simp only [Act.put, List.setIfInBounds_toArray, List.set_cons_zero, List.set_cons_succ]
                    refine wqnil (fun v hv => ?_)
                    obtain ⟨d2, rfl⟩ := hv
                    go_wp2
                    go_round
                    case rel =>
                      refine ⟨p + 1, d2, by go_num, by omega, fun i x' hi hx' => ?_, rfl⟩
                      by_cases e : i = p
                      · subst e
                        have := HG.out.symm.trans hx'
                        cases this
                        exact .inr (.inr hxn)
                      · exact hP.out i x' (by omega) hx'
                    case measure => simp [intOf]; omega

                · have hb1 : (x.v == M) = false := by simp [hxv]
                  refine region_q9 (C := fun v => ∃ k, v = w3.drewN k) (by kernel_rfl) (by kernel_rfl) ⟨d + 1, rfl⟩ ?_
                  refine wqv (u := .slice (some ⟨q, o, none⟩) As.length ca) (by kernel_rfl) (fun v hv => by kernel_rfl) ?_
                  simp only [Act.put, List.setIfInBounds_toArray, List.set_cons_zero, List.set_cons_succ]
                  refine wqv (u := .int .i64 (As.length : Int)) (by kernel_rfl) (fun v hv => by go_simp) ?_
                  simp only [Act.put, List.setIfInBounds_toArray, List.set_cons_zero, List.set_cons_succ]
                  refine wqv (u := .int .i64 (F : Int)) (by kernel_rfl) (fun v hv => by kernel_rfl) ?_
                  simp only [Act.put, List.setIfInBounds_toArray, List.set_cons_zero, List.set_cons_succ]
                  refine wqv (u := .bool true) (by kernel_rfl) (fun v hv => by go_simp) ?_
                  simp only [Act.put, List.setIfInBounds_toArray, List.set_cons_zero, List.set_cons_succ]
                  refine wqv (u := .bool true) (by kernel_rfl) (fun v hv => by kernel_rfl) ?_
                  simp only [Act.put, List.setIfInBounds_toArray, List.set_cons_zero, List.set_cons_succ]
                  refine wqv (u := .slice (some ⟨q, o, none⟩) As.length ca) (by kernel_rfl) (fun v hv => by kernel_rfl) ?_
                  simp only [Act.put, List.setIfInBounds_toArray, List.set_cons_zero, List.set_cons_succ]
                  refine wqv (u := .int .i64 (p : Int)) (by kernel_rfl) (fun v hv => by kernel_rfl) ?_
                  simp only [Act.put, List.setIfInBounds_toArray, List.set_cons_zero, List.set_cons_succ]
                  refine wqv (u := .pointer (some ⟨q, o + p * 6, none⟩)) (by kernel_rfl) (fun v hv => by go_simp) ?_
                  simp only [Act.put, List.setIfInBounds_toArray, List.set_cons_zero, List.set_cons_succ]
                  refine wqv (u := .pointer (some ⟨q, o + p * 6 + 3, none⟩)) (by kernel_rfl) (fun v hv => by go_simp) ?_
                  simp only [Act.put, List.setIfInBounds_toArray, List.set_cons_zero, List.set_cons_succ]
                  refine wqv (u := .int .i64 x.v) (by kernel_rfl) (fun v hv => by obtain ⟨y0, y3⟩ := KC.out v hv; go_simp) ?_
                  simp only [Act.put, List.setIfInBounds_toArray, List.set_cons_zero, List.set_cons_succ]
                  refine wqv (u := .int .i64 M) (by kernel_rfl) (fun v hv => by kernel_rfl) ?_
                  simp only [Act.put, List.setIfInBounds_toArray, List.set_cons_zero, List.set_cons_succ]
                  refine wqv (u := .bool false) (by kernel_rfl) (fun v hv => by go_simp) ?_
                  simp only [Act.put, List.setIfInBounds_toArray, List.set_cons_zero, List.set_cons_succ]
                  refine wqv (u := .bool false) (by kernel_rfl) (fun v hv => by kernel_rfl) ?_
                  simp only [Act.put, List.setIfInBounds_toArray, List.set_cons_zero, List.set_cons_succ]
                  refine wqv (u := .bool false) (by kernel_rfl) (fun v hv => by kernel_rfl) ?_
                  simp only [Act.put, List.setIfInBounds_toArray, List.set_cons_zero, List.set_cons_succ]
                  refine wqskip (by kernel_rfl) ?_
                  simp only [Act.put, List.setIfInBounds_toArray, List.set_cons_zero, List.set_cons_succ]
                  refine wqskip (by kernel_rfl) ?_
                  simp only [Act.put, List.setIfInBounds_toArray, List.set_cons_zero, List.set_cons_succ]
                  refine wqskip (by kernel_rfl) ?_
                  simp only [Act.put, List.setIfInBounds_toArray, List.set_cons_zero, List.set_cons_succ]
                  refine wqskip (by kernel_rfl) ?_
                  simp only [Act.put, List.setIfInBounds_toArray, List.set_cons_zero, List.set_cons_succ]
                  refine wqskip (by kernel_rfl) ?_
                  simp only [Act.put, List.setIfInBounds_toArray, List.set_cons_zero, List.set_cons_succ]
                  refine wqskip (by kernel_rfl) ?_
                  simp only [Act.put, List.setIfInBounds_toArray, List.set_cons_zero, List.set_cons_succ]
                  refine wqskip (by kernel_rfl) ?_
                  simp only [Act.put, List.setIfInBounds_toArray, List.set_cons_zero, List.set_cons_succ]
                  refine wqskip (by kernel_rfl) ?_
                  simp only [Act.put, List.setIfInBounds_toArray, List.set_cons_zero, List.set_cons_succ]
                  refine wqskip (by kernel_rfl) ?_
                  simp only [Act.put, List.setIfInBounds_toArray, List.set_cons_zero, List.set_cons_succ]
                  refine wqskip (by kernel_rfl) ?_
                  simp only [Act.put, List.setIfInBounds_toArray, List.set_cons_zero, List.set_cons_succ]
                  refine wqskip (by kernel_rfl) ?_
                  simp only [Act.put, List.setIfInBounds_toArray, List.set_cons_zero, List.set_cons_succ]
                  refine wqv (u := .bool false) (by kernel_rfl) (fun v hv => by kernel_rfl) ?_
                  simp only [Act.put, List.setIfInBounds_toArray, List.set_cons_zero, List.set_cons_succ]
                  refine wqnil (fun v hv => ?_)
                  obtain ⟨d2, rfl⟩ := hv
                  go_wp2
                  go_round
                  case rel =>
                    refine ⟨p + 1, d2, by go_num, by omega, fun i x' hi hx' => ?_, rfl⟩
                    by_cases e : i = p
                    · subst e
                      have := HG.out.symm.trans hx'
                      cases this
                      exact .inr (.inl hxv)
                    · exact hP.out i x' (by omega) hx'
                  case measure => simp [intOf]; omega

              · have hFI : ¬ ((F : Int) < (As.length : Int)) := by omega
                refine region_q9 (C := fun v => ∃ k, v = w3.drewN k) (by kernel_rfl) (by kernel_rfl) ⟨d + 1, rfl⟩ ?_
                refine wqv (u := .slice (some ⟨q, o, none⟩) As.length ca) (by kernel_rfl) (fun v hv => by kernel_rfl) ?_
                simp only [Act.put, List.setIfInBounds_toArray, List.set_cons_zero, List.set_cons_succ]
                refine wqv (u := .int .i64 (As.length : Int)) (by kernel_rfl) (fun v hv => by go_simp) ?_
                simp only [Act.put, List.setIfInBounds_toArray, List.set_cons_zero, List.set_cons_succ]
                refine wqv (u := .int .i64 (F : Int)) (by kernel_rfl) (fun v hv => by kernel_rfl) ?_
                simp only [Act.put, List.setIfInBounds_toArray, List.set_cons_zero, List.set_cons_succ]
                refine wqv (u := .bool false) (by kernel_rfl) (fun v hv => by go_simp) ?_
                simp only [Act.put, List.setIfInBounds_toArray, List.set_cons_zero, List.set_cons_succ]
                refine wqv (u := .bool false) (by kernel_rfl) (fun v hv => by kernel_rfl) ?_
                simp only [Act.put, List.setIfInBounds_toArray, List.set_cons_zero, List.set_cons_succ]
                refine wqskip (by kernel_rfl) ?_
                simp only [Act.put, List.setIfInBounds_toArray, List.set_cons_zero, List.set_cons_succ]
                refine wqskip (by kernel_rfl) ?_
                simp only [Act.put, List.setIfInBounds_toArray, List.set_cons_zero, List.set_cons_succ]
                refine wqskip (by kernel_rfl) ?_
                simp only [Act.put, List.setIfInBounds_toArray, List.set_cons_zero, List.set_cons_succ]
                refine wqskip (by kernel_rfl) ?_
                simp only [Act.put, List.setIfInBounds_toArray, List.set_cons_zero, List.set_cons_succ]
                refine wqskip (by kernel_rfl) ?_
                simp only [Act.put, List.setIfInBounds_toArray, List.set_cons_zero, List.set_cons_succ]
                refine wqskip (by kernel_rfl) ?_
                simp only [Act.put, List.setIfInBounds_toArray, List.set_cons_zero, List.set_cons_succ]
                refine wqskip (by kernel_rfl) ?_
                simp only [Act.put, List.setIfInBounds_toArray, List.set_cons_zero, List.set_cons_succ]
                refine wqv (u := .bool false) (by kernel_rfl) (fun v hv => by kernel_rfl) ?_
                simp only [Act.put, List.setIfInBounds_toArray, List.set_cons_zero, List.set_cons_succ]
                refine wqv (u := .bool false) (by kernel_rfl) (fun v hv => by kernel_rfl) ?_
                simp only [Act.put, List.setIfInBounds_toArray, List.set_cons_zero, List.set_cons_succ]
                refine wqskip (by kernel_rfl) ?_
                simp only [Act.put, List.setIfInBounds_toArray, List.set_cons_zero, List.set_cons_succ]
                refine wqskip (by kernel_rfl) ?_
                simp only [Act.put, List.setIfInBounds_toArray, List.set_cons_zero, List.set_cons_succ]
                refine wqskip (by kernel_rfl) ?_
                simp only [Act.put, List.setIfInBounds_toArray, List.set_cons_zero, List.set_cons_succ]
                refine wqskip (by kernel_rfl) ?_
                simp only [Act.put, List.setIfInBounds_toArray, List.set_cons_zero, List.set_cons_succ]
                refine wqskip (by kernel_rfl) ?_
                simp only [Act.put, List.setIfInBounds_toArray, List.set_cons_zero, List.set_cons_succ]
                refine wqskip (by kernel_rfl) ?_
                simp only [Act.put, List.setIfInBounds_toArray, List.set_cons_zero, List.set_cons_succ]
                refine wqskip (by kernel_rfl) ?_
                simp only [Act.put, List.setIfInBounds_toArray, List.set_cons_zero, List.set_cons_succ]
                refine wqskip (by kernel_rfl) ?_
                simp only [Act.put, List.setIfInBounds_toArray, List.set_cons_zero, List.set_cons_succ]
                refine wqskip (by kernel_rfl) ?_
                simp only [Act.put, List.setIfInBounds_toArray, List.set_cons_zero, List.set_cons_succ]
                refine wqskip (by kernel_rfl) ?_
                simp only [Act.put, List.setIfInBounds_toArray, List.set_cons_zero, List.set_cons_succ]
                refine wqskip (by kernel_rfl) ?_
                simp only [Act.put, List.setIfInBounds_toArray, List.set_cons_zero, List.set_cons_succ]
                refine wqv (u := .bool false) (by kernel_rfl) (fun v hv => by kernel_rfl) ?_
                simp only [Act.put, List.setIfInBounds_toArray, List.set_cons_zero, List.set_cons_succ]
                refine wqnil (fun v hv => ?_)
                obtain ⟨d2, rfl⟩ := hv
                go_wp2
                go_round
                case rel =>
                  refine ⟨p + 1, d2, by go_num, by omega, fun i x' hi hx' => ?_, rfl⟩
                  by_cases e : i = p
                  · subst e
                    have := HG.out.symm.trans hx'
                    cases this
                    exact .inl hFl
                  · exact hP.out i x' (by omega) hx'
                case measure => simp [intOf]; omega

            · obtain rfl : p = As.length := by omega
              have hne : Hid (stl (F : Int) As = none) := by
                show _ = _
                by_cases h0 : As = []
                · unfold stl
                  rw [if_pos (.inr (.inr (by rw [h0]; show ((0 : Nat) : Int) < (F : Int) + 1; omega)))]
                · exact stl_no hF1 hF3 (fun i y hy => by
                    have := hP.out i y (List.getElem?_eq_some_iff.1 hy).1 hy
                    rw [(hMX.out h0).1] at this
                    exact this)
              obtain ⟨hE, hy0⟩ : E = 81 ∧ y = (⟨0, 0, 0, 0, 0, ⟨none, 0, []⟩⟩ : An) := by
                rcases HY.out with ⟨_, h2, h3⟩ | ⟨x', h, _⟩
                · exact ⟨h2, h3⟩
                · rw [hne.out] at h; cases h
              subst hE hy0
              obtain ⟨k0, k1, k2, k3, k4, k5⟩ := cb.out
              dsimp only at k0 k1 k2 k3 k4 k5
              simp only [List.length_nil] at k5
              have cs : Hid (Calls Try.prog 37 #[.slice (some ⟨w3.heap.size, 0, none⟩) 1 1, .slice (some ⟨w3.heap.size + 1, 0, none⟩) 1 1] (((w3.drewN d).alloc (.cells #[.int .i64 0, .int .u64 0, .int .u64 0, .int .i64 0, .int .i64 0, .slice none 0 0] 68)).alloc (.cells #[.int .i64 0, .int .u64 0, .int .u64 0, .int .i64 0, .int .i64 0, .slice none 0 0] 68)) fun e w' => e = .returned (.bool true) ∧ Below w.heap.size w w') := by
                have b0 : Below w3.heap.size w3 (((w3.drewN d).alloc (.cells #[.int .i64 0, .int .u64 0, .int .u64 0, .int .i64 0, .int .i64 0, .slice none 0 0] 68)).alloc (.cells #[.int .i64 0, .int .u64 0, .int .u64 0, .int .i64 0, .int .i64 0, .slice none 0 0] 68)) := ((below_drewN (Below.refl _ _) d).alloc (Nat.le_refl _) _).alloc (by rw [World.size_alloc]; exact Nat.le_succ _) _
                have hs1 : SlY yAnA (((w3.drewN d).alloc (.cells #[.int .i64 0, .int .u64 0, .int .u64 0, .int .i64 0, .int .i64 0, .slice none 0 0] 68)).alloc (.cells #[.int .i64 0, .int .u64 0, .int .u64 0, .int .i64 0, .int .i64 0, .slice none 0 0] 68)) (some ⟨w3.heap.size, 0, none⟩) 1 1 [(⟨0, 0, 0, 0, 0, ⟨none, 0, []⟩⟩ : An)] := (sl_box (Y := yAnA) (w3.drewN d) (⟨0, 0, 0, 0, 0, ⟨none, 0, []⟩⟩ : An) 68).later ((Below.refl _ _).alloc (Nat.le_refl _) _)
                have hs2 : SlY yAnA (((w3.drewN d).alloc (.cells #[.int .i64 0, .int .u64 0, .int .u64 0, .int .i64 0, .int .i64 0, .slice none 0 0] 68)).alloc (.cells #[.int .i64 0, .int .u64 0, .int .u64 0, .int .i64 0, .int .i64 0, .slice none 0 0] 68)) (some ⟨w3.heap.size + 1, 0, none⟩) 1 1 [(⟨0, 0, 0, 0, 0, ⟨none, 0, []⟩⟩ : An)] := by
                  have := sl_box (Y := yAnA) ((w3.drewN d).alloc (.cells #[.int .i64 0, .int .u64 0, .int .u64 0, .int .i64 0, .int .i64 0, .slice none 0 0] 68)) (⟨0, 0, 0, 0, 0, ⟨none, 0, []⟩⟩ : An) 68
                  rw [World.size_alloc] at this
                  exact this
                refine (An.same_any [(⟨0, 0, 0, 0, 0, ⟨none, 0, []⟩⟩ : An)] [(⟨0, 0, 0, 0, 0, ⟨none, 0, []⟩⟩ : An)] _ _ 1 1 1 _ hs1 hs2 (fun i a b ha hb => by
                  cases i with
                  | zero => simp at ha hb; subst ha hb; exact An.like_self _
                  | succ i => simp at ha) (fun z hz => by simp at hz; subst hz; exact An.In_nil _ rfl) (fun z hz => by simp at hz; subst hz; exact An.In_nil _ rfl)).mono fun e w' h => ?_
                obtain ⟨rfl, k, rfl⟩ := h
                exact ⟨rfl, below_drewN (B6.out.trans (b0.mono B6.out.size)) k⟩
              have j0 : (w3.drewN d).cell? ⟨w2.heap.size, 0, none⟩ = some (.int .i64 0) := k0
              have j1 : (w3.drewN d).cell? ⟨w2.heap.size, 1, none⟩ = some (.int .u64 0) := k1
              have j2 : (w3.drewN d).cell? ⟨w2.heap.size, 2, none⟩ = some (.int .u64 0) := k2
              have j3 : (w3.drewN d).cell? ⟨w2.heap.size, 3, none⟩ = some (.int .i64 0) := k3
              have j4 : (w3.drewN d).cell? ⟨w2.heap.size, 4, none⟩ = some (.int .i64 0) := k4
              have j5 : (w3.drewN d).cell? ⟨w2.heap.size, 5, none⟩ = some (.slice none 0 0) := k5
              clear k0 k1 k2 k3 k4 k5 cb HY hMX hP SA3 IA3 YI3
              go_wp2_with fail
              refine cs.out.mono ?_
              rintro e w7 ⟨rfl, b7⟩
              dsimp only
              go_wp2
              go_ret
              exact ⟨rfl, b7⟩
theorem settled_came (f : Int) (a1 : Option Addr) (n1 c1 : Nat) (w : World) (h : CameAn w a1 n1 c1) :
    Calls Try.prog 10 #[.int .i64 f, .slice a1 n1 c1] w fun e w' => e = .returned (.bool true) ∧ Below w.heap.size w w' := by
  obtain ⟨P, h1, h2, _⟩ := h
  exact settled_walk f P a1 n1 c1 w h1 (fun x hx => (h2 x hx).In)

end Go.Proofs.Ytnhonkgondljjaa
