import Derived.Test.YtipkflaamncmbaaGreatSkc
import Derived.Test.YtipkflaamncmbaaGreatSa
import Derived.Test.YtipkflaamncmbaaGreatGPk
import Derived.Test.YtipkflaamncmbaaGreatFz
import Derived.Test.YtipkflaamncmbaaGreatSk8
import Derived.Deep.RegionHeld3
import Derived.Test.YtipkflaamncmbaaGreatQa
import Derived.Test.YtipkflaamncmbaaGreatHc
import Derived.Test.YtipkflaamncmbaaGreatGZa
import Derived.Test.YtipkflaamncmbaaGreatTe
namespace Go.Proofs.YtipkflaamncmbaaGreat
open Go.RowKit Go.Maps
open Classical
set_option linter.unusedVariables false
set_option linter.unusedSimpArgs false

set_option maxRecDepth 100000 in
/-- The document's config. -/
theorem refconfig_any (c : Cg) (w : World) : Calls Tryz.prog 47 #[.agg #[.int .i64 c.F, .int .i64 c.R, .int .i64 c.P, .bool c.u]] w fun e w' => e = .returned (.int .i64 (if c.ok = true then 0 else 1)) ∧ Below w.heap.size w w' := by
  have bw : Hid (Below w.heap.size w (w.alloc (.cells #[.int .i64 c.F, .int .i64 c.R, .int .i64 c.P, .bool c.u] 23))) := (Below.refl _ w).alloc (Nat.le_refl _) _
  have HK : Hid ((if c.ok = true then (0 : Int) else 1) = if 1 ≤ c.F ∧ c.F ≤ 3 ∧ 1 ≤ c.R ∧ c.R ≤ 256 then 0 else 1) := by
    show _ = _
    unfold Cg.ok
    simp only [decide_eq_true_eq]
  generalize (if c.ok = true then (0 : Int) else 1) = r at *
  by_cases h1 : c.F < 1
  · have hk : Hid (r = 1) := by show _ = _; rw [HK.out, if_neg (by omega)]
    go_enter Tryz.func47, Tryz.ntmps47
    go_wp2
    go_ret
    exact ⟨by rw [hk.out]; rfl, bw.out⟩
  by_cases h2 : 3 < c.F
  · have hk : Hid (r = 1) := by show _ = _; rw [HK.out, if_neg (by omega)]
    go_enter Tryz.func47, Tryz.ntmps47
    go_wp2
    go_ret
    exact ⟨by rw [hk.out]; rfl, bw.out⟩
  by_cases h3 : c.R < 1
  · have hk : Hid (r = 1) := by show _ = _; rw [HK.out, if_neg (by omega)]
    go_enter Tryz.func47, Tryz.ntmps47
    go_wp2
    go_ret
    exact ⟨by rw [hk.out]; rfl, bw.out⟩
  by_cases h4 : 256 < c.R
  · have hk : Hid (r = 1) := by show _ = _; rw [HK.out, if_neg (by omega)]
    go_enter Tryz.func47, Tryz.ntmps47
    go_wp2
    go_ret
    exact ⟨by rw [hk.out]; rfl, bw.out⟩
  have hk : Hid (r = 0) := by show _ = _; rw [HK.out, if_pos (by omega)]
  go_enter Tryz.func47, Tryz.ntmps47
  go_wp2
  go_ret
  exact ⟨by rw [hk.out]; rfl, bw.out⟩
/-- May a node stand behind the one ahead of it? -/
def vot (c : Cg) (self ahead node : Int) : Bool := decide (ahead < node ∧ 0 ≤ node ∧ node < 2 * c.F + 1 ∧ node ≠ self)
set_option maxRecDepth 100000 in
theorem refvoter_any (c : Cg) (self ahead node : Int) (w : World) (h1 : 1 ≤ c.F) (h3 : c.F ≤ 3) : Calls Tryz.prog 48 #[.agg #[.int .i64 c.F, .int .i64 c.R, .int .i64 c.P, .bool c.u], .int .i64 self, .int .i64 ahead, .int .i64 node] w fun e w' => e = .returned (.bool (vot c self ahead node)) ∧ Below w.heap.size w w' := by
  have bw : Hid (Below w.heap.size w (w.alloc (.cells #[.int .i64 c.F, .int .i64 c.R, .int .i64 c.P, .bool c.u] 23))) := (Below.refl _ w).alloc (Nat.le_refl _) _
  have hw1 : IntKind.i64.wrap (2 * c.F) = 2 * c.F := by rw [IntKind.wrap_i64]; omega
  have hw2 : IntKind.i64.wrap (2 * c.F + 1) = 2 * c.F + 1 := by rw [IntKind.wrap_i64]; omega
  have HK : Hid (vot c self ahead node = decide (ahead < node ∧ 0 ≤ node ∧ node < 2 * c.F + 1 ∧ node ≠ self)) := rfl
  generalize vot c self ahead node = V at *
  by_cases g1 : ahead < node
  · by_cases g2 : 0 ≤ node
    · by_cases g3 : node < 2 * c.F + 1
      · by_cases g4 : node = self
        · have hk : Hid (V = false) := by show _ = _; rw [HK.out]; exact decide_eq_false (fun h => h.2.2.2 g4)
          have g4b : (node != self) = false := by simp [g4]
          clear g4
          go_enter Tryz.func48, Tryz.ntmps48
          go_wp2
          go_ret
          exact ⟨by rw [hk.out]; rfl, bw.out⟩
        · have hk : Hid (V = true) := by show _ = _; rw [HK.out]; exact decide_eq_true ⟨g1, g2, g3, g4⟩
          have g4b : (node != self) = true := by simp [g4]
          go_enter Tryz.func48, Tryz.ntmps48
          go_wp2
          go_ret
          exact ⟨by rw [hk.out]; rfl, bw.out⟩
      · have hk : Hid (V = false) := by show _ = _; rw [HK.out]; exact decide_eq_false (fun h => g3 h.2.2.1)
        go_enter Tryz.func48, Tryz.ntmps48
        go_wp2
        go_ret
        exact ⟨by rw [hk.out]; rfl, bw.out⟩
    · have hk : Hid (V = false) := by show _ = _; rw [HK.out]; exact decide_eq_false (fun h => g2 h.2.1)
      go_enter Tryz.func48, Tryz.ntmps48
      go_wp2
      go_ret
      exact ⟨by rw [hk.out]; rfl, bw.out⟩
  · have hk : Hid (V = false) := by show _ = _; rw [HK.out]; exact decide_eq_false (fun h => g1 h.1)
    go_enter Tryz.func48, Tryz.ntmps48
    go_wp2
    go_ret
    exact ⟨by rw [hk.out]; rfl, bw.out⟩
set_option maxRecDepth 100000 in
set_option maxHeartbeats 2000000 in
/-- The document's CheckAcks. -/
theorem refcheckacks_any (c : Cg) (self : Int) (L : List Ak) (a : Option Addr) (n k : Nat) (w : World) (h : SlY yAkA w a n k L) :
    Calls Tryz.prog 9 #[.agg #[.int .i64 c.F, .int .i64 c.R, .int .i64 c.P, .bool c.u], .int .i64 self, .slice a n k] w fun e w' => e = .returned (.int .i64 (Ak.ck c self L)) ∧ Below w.heap.size w w' := by
  have hmx := h.max
  have hcp := h.cap
  have hln := h.len
  unfold maxLen at hmx
  have H := hide h
  have HN := hide hln
  clear h hln
  have B0 : Hid (Below w.heap.size w (w.alloc (.cells #[.int .i64 c.F, .int .i64 c.R, .int .i64 c.P, .bool c.u] 23))) := (Below.refl _ w).alloc (Nat.le_refl _) _
  have HCK : Hid (Ak.ck c self L = if c.ok = false then 1 else if Ak.ckl c self 0 L = true then 0 else 80) := rfl
  generalize Ak.ck c self L = CK at *
  go_enter Tryz.func9, Tryz.ntmps9
  go_wp2_with fail
  refine (refconfig_any c _).mono ?_
  rintro e w1 ⟨rfl, b1⟩
  dsimp only
  have hz1 : w.heap.size + 1 ≤ w1.heap.size := by have := b1.size; simpa using this
  have D1 : Hid (Below (w.heap.size + 1) (w.alloc (.cells #[.int .i64 c.F, .int .i64 c.R, .int .i64 c.P, .bool c.u] 23)) w1) := by show Below _ _ _; simpa using b1
  clear b1
  have KC : Hid (∀ v, Below (w.heap.size + 1) w1 v → v.cell? ⟨w.heap.size, 0, none⟩ = some (.int .i64 c.F) ∧ v.cell? ⟨w.heap.size, 1, none⟩ = some (.int .i64 c.R) ∧ v.cell? ⟨w.heap.size, 2, none⟩ = some (.int .i64 c.P) ∧ v.cell? ⟨w.heap.size, 3, none⟩ = some (.bool c.u)) := fun v hv =>
    ⟨((D1.out.trans hv).cell (p := ⟨w.heap.size, 0, none⟩) (by simp)).trans (by simp), ((D1.out.trans hv).cell (p := ⟨w.heap.size, 1, none⟩) (by simp)).trans (by simp), ((D1.out.trans hv).cell (p := ⟨w.heap.size, 2, none⟩) (by simp)).trans (by simp), ((D1.out.trans hv).cell (p := ⟨w.heap.size, 3, none⟩) (by simp)).trans (by simp)⟩
  have E1 := hide (B0.out.trans (D1.out.mono (by omega)))
  by_cases hk : c.ok = true
  · have hF : 1 ≤ c.F ∧ c.F ≤ 3 ∧ 1 ≤ c.R ∧ c.R ≤ 256 := of_decide_eq_true hk
    obtain ⟨hF1, hF3, _, _⟩ := hF
    have HC2 : Hid (CK = if Ak.ckl c self 0 (L.drop 0) = true then 0 else 80) := by show _ = _; rw [HCK.out, hk, if_neg (by simp)]; rfl
    rw [if_pos hk]
    clear HCK hk
    go_wp2
    go_loopw [8, 7] (fun i l wr => ∃ (j : Nat) (l' : Int), i = .int .i64 (j : Int) ∧ j ≤ n ∧ l = .int .i64 (l' - 1) ∧ 0 ≤ l' ∧ Hid (CK = if Ak.ckl c self l' (L.drop j) = true then 0 else 80) ∧ Hid (Below (w.heap.size + 1) w1 wr)) (fun i _ _ => n - (intOf i).toNat)
    case atStart => exact ⟨0, 0, rfl, Nat.zero_le _, rfl, Int.le_refl _, HC2, Below.refl _ _⟩
    case round =>
      obtain ⟨j, l', rfl, hj, rfl, hl0, hCK, hbl⟩ := hrel
      have zr : w.heap.size + 1 ≤ wr.heap.size := by have := hbl.out.size; omega
      by_cases hlt : j < n
      · have hjl : j < L.length := by rw [HN.out]; exact hlt
        have hg : L[j]? = some L[j] := List.getElem?_eq_getElem hjl
        have KL : Hid (∀ v, Below (w.heap.size + 1) w1 v → SlY yAkA v a n k L) := fun v hv => H.out.later (E1.out.trans (hv.mono (by omega)))
        obtain ⟨q, o, ea, hq, _⟩ := (KL.out wr hbl.out).AkA hg
        have hCK1 : Hid (CK = if (if L[j].n < l' ∨ 2 * c.F + 1 ≤ L[j].n ∨ L[j].n = self ∨ Ak.mb L[j] (2 * c.F + 1) c.R = false then false else Ak.ckl c self (L[j].n + 1) (L.drop (j + 1))) = true then 0 else 80) := by
          show _ = _
          rw [hCK.out, List.drop_eq_getElem_cons hjl, Ak.ckl]
        have KS : Hid (∀ v, Below (w.heap.size + 1) w1 v → (v.cell? ⟨q, o + j * 4, none⟩ = some (.int .i64 L[j].n) ∧ v.cell? ⟨q, o + j * 4 + 3, none⟩ = some (.int .i64 L[j].p)) ∧ v.cell? ⟨w.heap.size, 0, none⟩ = some (.int .i64 c.F) ∧ v.cell? ⟨w.heap.size, 1, none⟩ = some (.int .i64 c.R) ∧ v.cell? ⟨w.heap.size, 2, none⟩ = some (.int .i64 c.P) ∧ v.cell? ⟨w.heap.size, 3, none⟩ = some (.bool c.u)) := fun v hv => by
          obtain ⟨q', o', ea', _, yy, _, _, yp⟩ := (KL.out v hv).AkA hg
          rw [ea] at ea'
          cases ea'
          exact ⟨⟨yy, yp⟩, KC.out v hv⟩
        cases ea
        clear hg hCK
        generalize L[j] = x at *
        have cv := hide (fun W => refvoter_any c self (l' - 1) x.n W hF1 hF3)
        have HV : Hid (vot c self (l' - 1) x.n = decide (¬ (x.n < l' ∨ 2 * c.F + 1 ≤ x.n ∨ x.n = self))) := by
          show decide _ = decide _
          apply decide_eq_decide.2
          omega
        have KZ : Hid (∀ v, Below (w.heap.size + 1) w1 v → w.heap.size + 1 ≤ v.heap.size) := fun v hv => by have := hv.size; omega
        generalize vot c self (l' - 1) x.n = V at *
        go_wp2_with fail
        by_cases hc : x.n < l' ∨ 2 * c.F + 1 ≤ x.n ∨ x.n = self
        · have hV : V = false := by rw [HV.out]; exact decide_eq_false (fun h => h hc)
          subst hV
          have HC := hide hc
          clear hc
          refine region_q9 (C := fun v => Below (w.heap.size + 1) w1 v) (by kernel_rfl) (by kernel_rfl) hbl.out.drew ?_
          refine wqv (u := .agg #[.int .i64 c.F, .int .i64 c.R, .int .i64 c.P, .bool c.u]) (by kernel_rfl) (fun v hv => by obtain ⟨⟨y0, y3⟩, k0, k1, k2, k3⟩ := KS.out v hv; go_simp) ?_
          simp only [Act.put, List.setIfInBounds_toArray, List.set_cons_zero, List.set_cons_succ]
          refine wqv (u := .int .i64 self) (by kernel_rfl) (fun v hv => by kernel_rfl) ?_
          simp only [Act.put, List.setIfInBounds_toArray, List.set_cons_zero, List.set_cons_succ]
          refine wqv (u := (.int .i64 (l' - 1))) (by kernel_rfl) (fun v hv => by kernel_rfl) ?_
          simp only [Act.put, List.setIfInBounds_toArray, List.set_cons_zero, List.set_cons_succ]
          refine wqv (u := .slice (some ⟨q, o, none⟩) n k) (by kernel_rfl) (fun v hv => by kernel_rfl) ?_
          simp only [Act.put, List.setIfInBounds_toArray, List.set_cons_zero, List.set_cons_succ]
          refine wqv (u := .int .i64 (j : Int)) (by kernel_rfl) (fun v hv => by kernel_rfl) ?_
          simp only [Act.put, List.setIfInBounds_toArray, List.set_cons_zero, List.set_cons_succ]
          refine wqv (u := .pointer (some ⟨q, o + j * 4, none⟩)) (by kernel_rfl) (fun v hv => by go_simp) ?_
          simp only [Act.put, List.setIfInBounds_toArray, List.set_cons_zero, List.set_cons_succ]
          refine wqv (u := .pointer (some ⟨q, o + j * 4, none⟩)) (by kernel_rfl) (fun v hv => by go_simp) ?_
          simp only [Act.put, List.setIfInBounds_toArray, List.set_cons_zero, List.set_cons_succ]
          refine wqv (u := .int .i64 x.n) (by kernel_rfl) (fun v hv => by obtain ⟨⟨y0, y3⟩, k0, k1, k2, k3⟩ := KS.out v hv; go_simp) ?_
          simp only [Act.put, List.setIfInBounds_toArray, List.set_cons_zero, List.set_cons_succ]
          refine wqc (fid := 48) (args := #[.agg #[.int .i64 c.F, .int .i64 c.R, .int .i64 c.P, .bool c.u], .int .i64 self, .int .i64 (l' - 1), .int .i64 x.n]) (u := .bool false) (by kernel_rfl) (fun v => by kernel_rfl) (fun v hv => (cv.out v).mono fun e w' h => ⟨h.1, hv.trans (h.2.mono (KZ.out v hv))⟩) ?_
          simp only [Act.put, List.setIfInBounds_toArray, List.set_cons_zero, List.set_cons_succ]
          refine wqv (u := .bool true) (by kernel_rfl) (fun v hv => by kernel_rfl) ?_
          simp only [Act.put, List.setIfInBounds_toArray, List.set_cons_zero, List.set_cons_succ]
          refine wqv (u := .bool true) (by kernel_rfl) (fun v hv => by kernel_rfl) ?_
          simp only [Act.put, List.setIfInBounds_toArray, List.set_cons_zero, List.set_cons_succ]
          refine wqskip (by kernel_rfl) ?_
          simp only [Act.put, List.setIfInBounds_toArray, List.set_cons_zero, List.set_cons_succ]
          refine wqskip (by kernel_rfl) ?_
          simp only [Act.put, List.setIfInBounds_toArray, List.set_cons_zero, List.set_cons_succ]
          refine wqskip (by kernel_rfl) ?_
          simp only [Act.put, List.setIfInBounds_toArray, List.set_cons_zero, List.set_cons_succ]
          refine wqskip (by kernel_rfl) ?_
          simp only [Act.put, List.setIfInBounds_toArray, List.set_cons_zero, List.set_cons_succ]
          refine wqskip (by kernel_rfl) ?_
          simp only [Act.put, List.setIfInBounds_toArray, List.set_cons_zero, List.set_cons_succ]
          refine wqskip (by kernel_rfl) ?_
          simp only [Act.put, List.setIfInBounds_toArray, List.set_cons_zero, List.set_cons_succ]
          refine wqv (u := .bool true) (by kernel_rfl) (fun v hv => by kernel_rfl) ?_
          simp only [Act.put, List.setIfInBounds_toArray, List.set_cons_zero, List.set_cons_succ]
          refine wqv (u := .bool true) (by kernel_rfl) (fun v hv => by kernel_rfl) ?_
          simp only [Act.put, List.setIfInBounds_toArray, List.set_cons_zero, List.set_cons_succ]
          refine wqskip (by kernel_rfl) ?_
          simp only [Act.put, List.setIfInBounds_toArray, List.set_cons_zero, List.set_cons_succ]
          refine wqskip (by kernel_rfl) ?_
          simp only [Act.put, List.setIfInBounds_toArray, List.set_cons_zero, List.set_cons_succ]
          refine wqskip (by kernel_rfl) ?_
          simp only [Act.put, List.setIfInBounds_toArray, List.set_cons_zero, List.set_cons_succ]
          refine wqskip (by kernel_rfl) ?_
          simp only [Act.put, List.setIfInBounds_toArray, List.set_cons_zero, List.set_cons_succ]
          refine wqskip (by kernel_rfl) ?_
          simp only [Act.put, List.setIfInBounds_toArray, List.set_cons_zero, List.set_cons_succ]
          refine wqskip (by kernel_rfl) ?_
          simp only [Act.put, List.setIfInBounds_toArray, List.set_cons_zero, List.set_cons_succ]
          refine wqskip (by kernel_rfl) ?_
          simp only [Act.put, List.setIfInBounds_toArray, List.set_cons_zero, List.set_cons_succ]
          refine wqskip (by kernel_rfl) ?_
          simp only [Act.put, List.setIfInBounds_toArray, List.set_cons_zero, List.set_cons_succ]
          refine wqv (u := .bool true) (by kernel_rfl) (fun v hv => by kernel_rfl) ?_
          simp only [Act.put, List.setIfInBounds_toArray, List.set_cons_zero, List.set_cons_succ]
          refine wqnil (fun w2 hv => ?_)
          have D2 := hide hv
          clear hv
          have hCK2 : Hid (CK = 80) := by show _ = _; rw [hCK1.out, if_pos (c := x.n < l' ∨ 2 * c.F + 1 ≤ x.n ∨ x.n = self ∨ Ak.mb x (2 * c.F + 1) c.R = false) (by rcases HC.out with h | h | h; exact .inl h; exact .inr (.inl h); exact .inr (.inr (.inl h)))]; rfl
          clear hCK1
          go_wp2
          go_ret
          exact ⟨by rw [hCK2.out]; rfl, E1.out.trans (D2.out.mono (by omega))⟩
        · have hV : V = true := by rw [HV.out]; exact decide_eq_true hc
          subst hV
          have HC := hide hc
          have hx0 : 0 ≤ x.n := by omega
          clear hc HV
          by_cases hp : x.p < 0
          · have HP := hide (show Ak.mb x (2 * c.F + 1) c.R = false from decide_eq_false (fun h => by omega))
            refine region_q9 (C := fun v => Below (w.heap.size + 1) w1 v) (by kernel_rfl) (by kernel_rfl) hbl.out.drew ?_
            refine wqv (u := .agg #[.int .i64 c.F, .int .i64 c.R, .int .i64 c.P, .bool c.u]) (by kernel_rfl) (fun v hv => by obtain ⟨⟨y0, y3⟩, k0, k1, k2, k3⟩ := KS.out v hv; go_simp) ?_
            simp only [Act.put, List.setIfInBounds_toArray, List.set_cons_zero, List.set_cons_succ]
            refine wqv (u := .int .i64 self) (by kernel_rfl) (fun v hv => by kernel_rfl) ?_
            simp only [Act.put, List.setIfInBounds_toArray, List.set_cons_zero, List.set_cons_succ]
            refine wqv (u := (.int .i64 (l' - 1))) (by kernel_rfl) (fun v hv => by kernel_rfl) ?_
            simp only [Act.put, List.setIfInBounds_toArray, List.set_cons_zero, List.set_cons_succ]
            refine wqv (u := .slice (some ⟨q, o, none⟩) n k) (by kernel_rfl) (fun v hv => by kernel_rfl) ?_
            simp only [Act.put, List.setIfInBounds_toArray, List.set_cons_zero, List.set_cons_succ]
            refine wqv (u := .int .i64 (j : Int)) (by kernel_rfl) (fun v hv => by kernel_rfl) ?_
            simp only [Act.put, List.setIfInBounds_toArray, List.set_cons_zero, List.set_cons_succ]
            refine wqv (u := .pointer (some ⟨q, o + j * 4, none⟩)) (by kernel_rfl) (fun v hv => by go_simp) ?_
            simp only [Act.put, List.setIfInBounds_toArray, List.set_cons_zero, List.set_cons_succ]
            refine wqv (u := .pointer (some ⟨q, o + j * 4, none⟩)) (by kernel_rfl) (fun v hv => by go_simp) ?_
            simp only [Act.put, List.setIfInBounds_toArray, List.set_cons_zero, List.set_cons_succ]
            refine wqv (u := .int .i64 x.n) (by kernel_rfl) (fun v hv => by obtain ⟨⟨y0, y3⟩, k0, k1, k2, k3⟩ := KS.out v hv; go_simp) ?_
            simp only [Act.put, List.setIfInBounds_toArray, List.set_cons_zero, List.set_cons_succ]
            refine wqc (fid := 48) (args := #[.agg #[.int .i64 c.F, .int .i64 c.R, .int .i64 c.P, .bool c.u], .int .i64 self, .int .i64 (l' - 1), .int .i64 x.n]) (u := .bool true) (by kernel_rfl) (fun v => by kernel_rfl) (fun v hv => (cv.out v).mono fun e w' h => ⟨h.1, hv.trans (h.2.mono (KZ.out v hv))⟩) ?_
            simp only [Act.put, List.setIfInBounds_toArray, List.set_cons_zero, List.set_cons_succ]
            refine wqv (u := .bool false) (by kernel_rfl) (fun v hv => by kernel_rfl) ?_
            simp only [Act.put, List.setIfInBounds_toArray, List.set_cons_zero, List.set_cons_succ]
            refine wqv (u := .bool false) (by kernel_rfl) (fun v hv => by kernel_rfl) ?_
            simp only [Act.put, List.setIfInBounds_toArray, List.set_cons_zero, List.set_cons_succ]
            refine wqv (u := .slice (some ⟨q, o, none⟩) n k) (by kernel_rfl) (fun v hv => by kernel_rfl) ?_
            simp only [Act.put, List.setIfInBounds_toArray, List.set_cons_zero, List.set_cons_succ]
            refine wqv (u := .int .i64 (j : Int)) (by kernel_rfl) (fun v hv => by kernel_rfl) ?_
            simp only [Act.put, List.setIfInBounds_toArray, List.set_cons_zero, List.set_cons_succ]
            refine wqv (u := .pointer (some ⟨q, o + j * 4, none⟩)) (by kernel_rfl) (fun v hv => by go_simp) ?_
            simp only [Act.put, List.setIfInBounds_toArray, List.set_cons_zero, List.set_cons_succ]
            refine wqv (u := .pointer (some ⟨q, o + j * 4 + 3, none⟩)) (by kernel_rfl) (fun v hv => by go_simp) ?_
            simp only [Act.put, List.setIfInBounds_toArray, List.set_cons_zero, List.set_cons_succ]
            refine wqv (u := .int .i64 x.p) (by kernel_rfl) (fun v hv => by obtain ⟨⟨y0, y3⟩, k0, k1, k2, k3⟩ := KS.out v hv; go_simp) ?_
            simp only [Act.put, List.setIfInBounds_toArray, List.set_cons_zero, List.set_cons_succ]
            refine wqv (u := .bool true) (by kernel_rfl) (fun v hv => by go_simp) ?_
            simp only [Act.put, List.setIfInBounds_toArray, List.set_cons_zero, List.set_cons_succ]
            refine wqv (u := .bool true) (by kernel_rfl) (fun v hv => by kernel_rfl) ?_
            simp only [Act.put, List.setIfInBounds_toArray, List.set_cons_zero, List.set_cons_succ]
            refine wqv (u := .bool true) (by kernel_rfl) (fun v hv => by kernel_rfl) ?_
            simp only [Act.put, List.setIfInBounds_toArray, List.set_cons_zero, List.set_cons_succ]
            refine wqskip (by kernel_rfl) ?_
            simp only [Act.put, List.setIfInBounds_toArray, List.set_cons_zero, List.set_cons_succ]
            refine wqskip (by kernel_rfl) ?_
            simp only [Act.put, List.setIfInBounds_toArray, List.set_cons_zero, List.set_cons_succ]
            refine wqskip (by kernel_rfl) ?_
            simp only [Act.put, List.setIfInBounds_toArray, List.set_cons_zero, List.set_cons_succ]
            refine wqskip (by kernel_rfl) ?_
            simp only [Act.put, List.setIfInBounds_toArray, List.set_cons_zero, List.set_cons_succ]
            refine wqskip (by kernel_rfl) ?_
            simp only [Act.put, List.setIfInBounds_toArray, List.set_cons_zero, List.set_cons_succ]
            refine wqskip (by kernel_rfl) ?_
            simp only [Act.put, List.setIfInBounds_toArray, List.set_cons_zero, List.set_cons_succ]
            refine wqskip (by kernel_rfl) ?_
            simp only [Act.put, List.setIfInBounds_toArray, List.set_cons_zero, List.set_cons_succ]
            refine wqskip (by kernel_rfl) ?_
            simp only [Act.put, List.setIfInBounds_toArray, List.set_cons_zero, List.set_cons_succ]
            refine wqv (u := .bool true) (by kernel_rfl) (fun v hv => by kernel_rfl) ?_
            simp only [Act.put, List.setIfInBounds_toArray, List.set_cons_zero, List.set_cons_succ]
            refine wqnil (fun w2 hv => ?_)
            have D2 := hide hv
            clear hv
            have hCK2 : Hid (CK = 80) := by show _ = _; rw [hCK1.out, if_pos (c := x.n < l' ∨ 2 * c.F + 1 ≤ x.n ∨ x.n = self ∨ Ak.mb x (2 * c.F + 1) c.R = false) (.inr (.inr (.inr HP.out)))]; rfl
            clear hCK1
            go_wp2
            go_ret
            exact ⟨by rw [hCK2.out]; rfl, E1.out.trans (D2.out.mono (by omega))⟩
          · by_cases hr : c.R < x.p
            · have HP := hide (show Ak.mb x (2 * c.F + 1) c.R = false from decide_eq_false (fun h => by omega))
              refine region_q9 (C := fun v => Below (w.heap.size + 1) w1 v) (by kernel_rfl) (by kernel_rfl) hbl.out.drew ?_
              refine wqv (u := .agg #[.int .i64 c.F, .int .i64 c.R, .int .i64 c.P, .bool c.u]) (by kernel_rfl) (fun v hv => by obtain ⟨⟨y0, y3⟩, k0, k1, k2, k3⟩ := KS.out v hv; go_simp) ?_
              simp only [Act.put, List.setIfInBounds_toArray, List.set_cons_zero, List.set_cons_succ]
              refine wqv (u := .int .i64 self) (by kernel_rfl) (fun v hv => by kernel_rfl) ?_
              simp only [Act.put, List.setIfInBounds_toArray, List.set_cons_zero, List.set_cons_succ]
              refine wqv (u := (.int .i64 (l' - 1))) (by kernel_rfl) (fun v hv => by kernel_rfl) ?_
              simp only [Act.put, List.setIfInBounds_toArray, List.set_cons_zero, List.set_cons_succ]
              refine wqv (u := .slice (some ⟨q, o, none⟩) n k) (by kernel_rfl) (fun v hv => by kernel_rfl) ?_
              simp only [Act.put, List.setIfInBounds_toArray, List.set_cons_zero, List.set_cons_succ]
              refine wqv (u := .int .i64 (j : Int)) (by kernel_rfl) (fun v hv => by kernel_rfl) ?_
              simp only [Act.put, List.setIfInBounds_toArray, List.set_cons_zero, List.set_cons_succ]
              refine wqv (u := .pointer (some ⟨q, o + j * 4, none⟩)) (by kernel_rfl) (fun v hv => by go_simp) ?_
              simp only [Act.put, List.setIfInBounds_toArray, List.set_cons_zero, List.set_cons_succ]
              refine wqv (u := .pointer (some ⟨q, o + j * 4, none⟩)) (by kernel_rfl) (fun v hv => by go_simp) ?_
              simp only [Act.put, List.setIfInBounds_toArray, List.set_cons_zero, List.set_cons_succ]
              refine wqv (u := .int .i64 x.n) (by kernel_rfl) (fun v hv => by obtain ⟨⟨y0, y3⟩, k0, k1, k2, k3⟩ := KS.out v hv; go_simp) ?_
              simp only [Act.put, List.setIfInBounds_toArray, List.set_cons_zero, List.set_cons_succ]
              refine wqc (fid := 48) (args := #[.agg #[.int .i64 c.F, .int .i64 c.R, .int .i64 c.P, .bool c.u], .int .i64 self, .int .i64 (l' - 1), .int .i64 x.n]) (u := .bool true) (by kernel_rfl) (fun v => by kernel_rfl) (fun v hv => (cv.out v).mono fun e w' h => ⟨h.1, hv.trans (h.2.mono (KZ.out v hv))⟩) ?_
              simp only [Act.put, List.setIfInBounds_toArray, List.set_cons_zero, List.set_cons_succ]
              refine wqv (u := .bool false) (by kernel_rfl) (fun v hv => by kernel_rfl) ?_
              simp only [Act.put, List.setIfInBounds_toArray, List.set_cons_zero, List.set_cons_succ]
              refine wqv (u := .bool false) (by kernel_rfl) (fun v hv => by kernel_rfl) ?_
              simp only [Act.put, List.setIfInBounds_toArray, List.set_cons_zero, List.set_cons_succ]
              refine wqv (u := .slice (some ⟨q, o, none⟩) n k) (by kernel_rfl) (fun v hv => by kernel_rfl) ?_
              simp only [Act.put, List.setIfInBounds_toArray, List.set_cons_zero, List.set_cons_succ]
              refine wqv (u := .int .i64 (j : Int)) (by kernel_rfl) (fun v hv => by kernel_rfl) ?_
              simp only [Act.put, List.setIfInBounds_toArray, List.set_cons_zero, List.set_cons_succ]
              refine wqv (u := .pointer (some ⟨q, o + j * 4, none⟩)) (by kernel_rfl) (fun v hv => by go_simp) ?_
              simp only [Act.put, List.setIfInBounds_toArray, List.set_cons_zero, List.set_cons_succ]
              refine wqv (u := .pointer (some ⟨q, o + j * 4 + 3, none⟩)) (by kernel_rfl) (fun v hv => by go_simp) ?_
              simp only [Act.put, List.setIfInBounds_toArray, List.set_cons_zero, List.set_cons_succ]
              refine wqv (u := .int .i64 x.p) (by kernel_rfl) (fun v hv => by obtain ⟨⟨y0, y3⟩, k0, k1, k2, k3⟩ := KS.out v hv; go_simp) ?_
              simp only [Act.put, List.setIfInBounds_toArray, List.set_cons_zero, List.set_cons_succ]
              refine wqv (u := .bool false) (by kernel_rfl) (fun v hv => by go_simp) ?_
              simp only [Act.put, List.setIfInBounds_toArray, List.set_cons_zero, List.set_cons_succ]
              refine wqv (u := .bool false) (by kernel_rfl) (fun v hv => by kernel_rfl) ?_
              simp only [Act.put, List.setIfInBounds_toArray, List.set_cons_zero, List.set_cons_succ]
              refine wqv (u := .bool false) (by kernel_rfl) (fun v hv => by kernel_rfl) ?_
              simp only [Act.put, List.setIfInBounds_toArray, List.set_cons_zero, List.set_cons_succ]
              refine wqv (u := .slice (some ⟨q, o, none⟩) n k) (by kernel_rfl) (fun v hv => by kernel_rfl) ?_
              simp only [Act.put, List.setIfInBounds_toArray, List.set_cons_zero, List.set_cons_succ]
              refine wqv (u := .int .i64 (j : Int)) (by kernel_rfl) (fun v hv => by kernel_rfl) ?_
              simp only [Act.put, List.setIfInBounds_toArray, List.set_cons_zero, List.set_cons_succ]
              refine wqv (u := .pointer (some ⟨q, o + j * 4, none⟩)) (by kernel_rfl) (fun v hv => by go_simp) ?_
              simp only [Act.put, List.setIfInBounds_toArray, List.set_cons_zero, List.set_cons_succ]
              refine wqv (u := .pointer (some ⟨q, o + j * 4 + 3, none⟩)) (by kernel_rfl) (fun v hv => by go_simp) ?_
              simp only [Act.put, List.setIfInBounds_toArray, List.set_cons_zero, List.set_cons_succ]
              refine wqv (u := .int .i64 x.p) (by kernel_rfl) (fun v hv => by obtain ⟨⟨y0, y3⟩, k0, k1, k2, k3⟩ := KS.out v hv; go_simp) ?_
              simp only [Act.put, List.setIfInBounds_toArray, List.set_cons_zero, List.set_cons_succ]
              refine wqv (u := .pointer (some ⟨w.heap.size, 1, none⟩)) (by kernel_rfl) (fun v hv => by go_simp) ?_
              simp only [Act.put, List.setIfInBounds_toArray, List.set_cons_zero, List.set_cons_succ]
              refine wqv (u := .int .i64 c.R) (by kernel_rfl) (fun v hv => by obtain ⟨⟨y0, y3⟩, k0, k1, k2, k3⟩ := KS.out v hv; go_simp) ?_
              simp only [Act.put, List.setIfInBounds_toArray, List.set_cons_zero, List.set_cons_succ]
              refine wqv (u := .bool true) (by kernel_rfl) (fun v hv => by go_simp) ?_
              simp only [Act.put, List.setIfInBounds_toArray, List.set_cons_zero, List.set_cons_succ]
              refine wqv (u := .bool true) (by kernel_rfl) (fun v hv => by kernel_rfl) ?_
              simp only [Act.put, List.setIfInBounds_toArray, List.set_cons_zero, List.set_cons_succ]
              refine wqnil (fun w2 hv => ?_)
              have D2 := hide hv
              clear hv
              have hCK2 : Hid (CK = 80) := by show _ = _; rw [hCK1.out, if_pos (c := x.n < l' ∨ 2 * c.F + 1 ≤ x.n ∨ x.n = self ∨ Ak.mb x (2 * c.F + 1) c.R = false) (.inr (.inr (.inr HP.out)))]; rfl
              clear hCK1
              go_wp2
              go_ret
              exact ⟨by rw [hCK2.out]; rfl, E1.out.trans (D2.out.mono (by omega))⟩
            · have hCK2 : Hid (CK = if Ak.ckl c self (x.n + 1) (L.drop (j + 1)) = true then 0 else 80) := by
                show _ = _
                have hmb : Ak.mb x (2 * c.F + 1) c.R = true := decide_eq_true ⟨by omega, by omega⟩
                have hy : ¬ (x.n < l' ∨ 2 * c.F + 1 ≤ x.n ∨ x.n = self ∨ Ak.mb x (2 * c.F + 1) c.R = false) := by
                  rintro (h | h | h | h)
                  · exact HC.out (.inl h)
                  · exact HC.out (.inr (.inl h))
                  · exact HC.out (.inr (.inr h))
                  · rw [hmb] at h; cases h
                rw [hCK1.out, if_neg hy]
              clear hCK1
              refine region_q9 (C := fun v => Below (w.heap.size + 1) w1 v) (by kernel_rfl) (by kernel_rfl) hbl.out.drew ?_
              refine wqv (u := .agg #[.int .i64 c.F, .int .i64 c.R, .int .i64 c.P, .bool c.u]) (by kernel_rfl) (fun v hv => by obtain ⟨⟨y0, y3⟩, k0, k1, k2, k3⟩ := KS.out v hv; go_simp) ?_
              simp only [Act.put, List.setIfInBounds_toArray, List.set_cons_zero, List.set_cons_succ]
              refine wqv (u := .int .i64 self) (by kernel_rfl) (fun v hv => by kernel_rfl) ?_
              simp only [Act.put, List.setIfInBounds_toArray, List.set_cons_zero, List.set_cons_succ]
              refine wqv (u := (.int .i64 (l' - 1))) (by kernel_rfl) (fun v hv => by kernel_rfl) ?_
              simp only [Act.put, List.setIfInBounds_toArray, List.set_cons_zero, List.set_cons_succ]
              refine wqv (u := .slice (some ⟨q, o, none⟩) n k) (by kernel_rfl) (fun v hv => by kernel_rfl) ?_
              simp only [Act.put, List.setIfInBounds_toArray, List.set_cons_zero, List.set_cons_succ]
              refine wqv (u := .int .i64 (j : Int)) (by kernel_rfl) (fun v hv => by kernel_rfl) ?_
              simp only [Act.put, List.setIfInBounds_toArray, List.set_cons_zero, List.set_cons_succ]
              refine wqv (u := .pointer (some ⟨q, o + j * 4, none⟩)) (by kernel_rfl) (fun v hv => by go_simp) ?_
              simp only [Act.put, List.setIfInBounds_toArray, List.set_cons_zero, List.set_cons_succ]
              refine wqv (u := .pointer (some ⟨q, o + j * 4, none⟩)) (by kernel_rfl) (fun v hv => by go_simp) ?_
              simp only [Act.put, List.setIfInBounds_toArray, List.set_cons_zero, List.set_cons_succ]
              refine wqv (u := .int .i64 x.n) (by kernel_rfl) (fun v hv => by obtain ⟨⟨y0, y3⟩, k0, k1, k2, k3⟩ := KS.out v hv; go_simp) ?_
              simp only [Act.put, List.setIfInBounds_toArray, List.set_cons_zero, List.set_cons_succ]
              refine wqc (fid := 48) (args := #[.agg #[.int .i64 c.F, .int .i64 c.R, .int .i64 c.P, .bool c.u], .int .i64 self, .int .i64 (l' - 1), .int .i64 x.n]) (u := .bool true) (by kernel_rfl) (fun v => by kernel_rfl) (fun v hv => (cv.out v).mono fun e w' h => ⟨h.1, hv.trans (h.2.mono (KZ.out v hv))⟩) ?_
              simp only [Act.put, List.setIfInBounds_toArray, List.set_cons_zero, List.set_cons_succ]
              refine wqv (u := .bool false) (by kernel_rfl) (fun v hv => by kernel_rfl) ?_
              simp only [Act.put, List.setIfInBounds_toArray, List.set_cons_zero, List.set_cons_succ]
              refine wqv (u := .bool false) (by kernel_rfl) (fun v hv => by kernel_rfl) ?_
              simp only [Act.put, List.setIfInBounds_toArray, List.set_cons_zero, List.set_cons_succ]
              refine wqv (u := .slice (some ⟨q, o, none⟩) n k) (by kernel_rfl) (fun v hv => by kernel_rfl) ?_
              simp only [Act.put, List.setIfInBounds_toArray, List.set_cons_zero, List.set_cons_succ]
              refine wqv (u := .int .i64 (j : Int)) (by kernel_rfl) (fun v hv => by kernel_rfl) ?_
              simp only [Act.put, List.setIfInBounds_toArray, List.set_cons_zero, List.set_cons_succ]
              refine wqv (u := .pointer (some ⟨q, o + j * 4, none⟩)) (by kernel_rfl) (fun v hv => by go_simp) ?_
              simp only [Act.put, List.setIfInBounds_toArray, List.set_cons_zero, List.set_cons_succ]
              refine wqv (u := .pointer (some ⟨q, o + j * 4 + 3, none⟩)) (by kernel_rfl) (fun v hv => by go_simp) ?_
              simp only [Act.put, List.setIfInBounds_toArray, List.set_cons_zero, List.set_cons_succ]
              refine wqv (u := .int .i64 x.p) (by kernel_rfl) (fun v hv => by obtain ⟨⟨y0, y3⟩, k0, k1, k2, k3⟩ := KS.out v hv; go_simp) ?_
              simp only [Act.put, List.setIfInBounds_toArray, List.set_cons_zero, List.set_cons_succ]
              refine wqv (u := .bool false) (by kernel_rfl) (fun v hv => by go_simp) ?_
              simp only [Act.put, List.setIfInBounds_toArray, List.set_cons_zero, List.set_cons_succ]
              refine wqv (u := .bool false) (by kernel_rfl) (fun v hv => by kernel_rfl) ?_
              simp only [Act.put, List.setIfInBounds_toArray, List.set_cons_zero, List.set_cons_succ]
              refine wqv (u := .bool false) (by kernel_rfl) (fun v hv => by kernel_rfl) ?_
              simp only [Act.put, List.setIfInBounds_toArray, List.set_cons_zero, List.set_cons_succ]
              refine wqv (u := .slice (some ⟨q, o, none⟩) n k) (by kernel_rfl) (fun v hv => by kernel_rfl) ?_
              simp only [Act.put, List.setIfInBounds_toArray, List.set_cons_zero, List.set_cons_succ]
              refine wqv (u := .int .i64 (j : Int)) (by kernel_rfl) (fun v hv => by kernel_rfl) ?_
              simp only [Act.put, List.setIfInBounds_toArray, List.set_cons_zero, List.set_cons_succ]
              refine wqv (u := .pointer (some ⟨q, o + j * 4, none⟩)) (by kernel_rfl) (fun v hv => by go_simp) ?_
              simp only [Act.put, List.setIfInBounds_toArray, List.set_cons_zero, List.set_cons_succ]
              refine wqv (u := .pointer (some ⟨q, o + j * 4 + 3, none⟩)) (by kernel_rfl) (fun v hv => by go_simp) ?_
              simp only [Act.put, List.setIfInBounds_toArray, List.set_cons_zero, List.set_cons_succ]
              refine wqv (u := .int .i64 x.p) (by kernel_rfl) (fun v hv => by obtain ⟨⟨y0, y3⟩, k0, k1, k2, k3⟩ := KS.out v hv; go_simp) ?_
              simp only [Act.put, List.setIfInBounds_toArray, List.set_cons_zero, List.set_cons_succ]
              refine wqv (u := .pointer (some ⟨w.heap.size, 1, none⟩)) (by kernel_rfl) (fun v hv => by go_simp) ?_
              simp only [Act.put, List.setIfInBounds_toArray, List.set_cons_zero, List.set_cons_succ]
              refine wqv (u := .int .i64 c.R) (by kernel_rfl) (fun v hv => by obtain ⟨⟨y0, y3⟩, k0, k1, k2, k3⟩ := KS.out v hv; go_simp) ?_
              simp only [Act.put, List.setIfInBounds_toArray, List.set_cons_zero, List.set_cons_succ]
              refine wqv (u := .bool false) (by kernel_rfl) (fun v hv => by go_simp) ?_
              simp only [Act.put, List.setIfInBounds_toArray, List.set_cons_zero, List.set_cons_succ]
              refine wqv (u := .bool false) (by kernel_rfl) (fun v hv => by kernel_rfl) ?_
              simp only [Act.put, List.setIfInBounds_toArray, List.set_cons_zero, List.set_cons_succ]
              refine wqnil (fun w2 hv => ?_)
              have D2 := hide hv
              clear hv
              obtain ⟨⟨t0, _⟩, _⟩ := KS.out w2 D2.out
              go_wp2
              go_round
              case rel => exact ⟨j + 1, x.n + 1, by go_num, by omega, by rw [show x.n + 1 - 1 = x.n by omega], by omega, hCK2, D2⟩
              case measure => first | (simp [intOf]; done) | (simp [intOf]; omega)
      · obtain rfl : j = n := by omega
        have hCK1 : Hid (CK = 0) := by show _ = _; rw [hCK.out, List.drop_of_length_le (by rw [HN.out]; exact Nat.le_refl _), Ak.ckl, if_pos rfl]
        clear hCK
        go_wp2
        go_ret
        exact ⟨by rw [hCK1.out]; rfl, E1.out.trans (hbl.out.mono (by omega))⟩
  · have hk2 : c.ok = false := by simpa using hk
    have hCK1 : Hid (CK = 1) := by show _ = _; rw [HCK.out, if_pos hk2]
    rw [if_neg hk]
    clear HCK
    go_wp2
    go_ret
    exact ⟨by rw [hCK1.out]; rfl, E1.out⟩

end Go.Proofs.YtipkflaamncmbaaGreat

namespace Go.Proofs.YtipkflaamncmbaaGreat
open Go.RowKit Go.Maps
set_option linter.unusedVariables false
set_option linter.unusedSimpArgs false

set_option maxRecDepth 100000 in
set_option maxHeartbeats 1000000 in
theorem refover_any (D : List (Int × Int)) (a : Option Addr) (n c : Nat) (nd h l : Int) (w : World) (hD : SlY yD w a n c D) :
    Calls Tryz.prog 55 #[.slice a n c, .int .i64 nd, .agg #[.int .u64 h, .int .u64 l]] w fun e w' => e = .returned (.bool (ovr D nd h l)) ∧ Below w.heap.size w w' := by
  have hmx := hD.max
  have hcp := hD.cap
  have hln := hD.len
  unfold maxLen at hmx
  have HB : Hid (∀ v, Below (w.heap.size + 1) (w.alloc (.cells #[.int .u64 h, .int .u64 l] 27)) v → Below w.heap.size w v) := fun v hv => ((Below.refl _ w).alloc (Nat.le_refl _) _).trans (hv.mono (by omega))
  have HV : Hid (ovr D nd h l = (decide (0 ≤ nd ∧ nd < (n : Int)) && decide (cmpD h l (D.getD nd.toNat (0, 0)).1 (D.getD nd.toNat (0, 0)).2 < 0))) := by show _ = _; unfold ovr; rw [hln]
  generalize ovr D nd h l = V at *
  by_cases h0 : 0 ≤ nd
  · by_cases h1 : nd < (n : Int)
    · obtain ⟨j, rfl⟩ : ∃ j : Nat, nd = (j : Int) := ⟨nd.toNat, by omega⟩
      have hj : j < n := by omega
      have hg : D[j]? = some (D[j]'(by omega)) := List.getElem?_eq_getElem (by omega)
      obtain ⟨q, o, rfl, hq, hl⟩ := hD.place (by rintro rfl; simp at hg)
      have x0 := hl j _ hg 0 _ rfl
      have x1 := hl j _ hg 1 _ rfl
      have HV2 : Hid (V = decide (cmpD h l (D[j]'(by omega)).1 (D[j]'(by omega)).2 < 0)) := by
        show _ = _
        rw [HV.out, decide_eq_true (show (0 : Int) ≤ (j : Int) ∧ (j : Int) < (n : Int) from ⟨h0, h1⟩), Bool.true_and, Int.toNat_natCast, List.getD_eq_getElem?_getD, hg, Option.getD_some]
      clear HV hl hg
      generalize (D[j]'(by omega)) = x at *
      have CC := hide (fun W => refcompare_any h l x.1 x.2 W)
      generalize cmpD h l x.1 x.2 = r at *
      have KC : Hid (∀ v, Below (w.heap.size + 1) (w.alloc (.cells #[.int .u64 h, .int .u64 l] 27)) v → (v.cell? ⟨w.heap.size, 0, none⟩ = some (.int .u64 h) ∧ v.cell? ⟨w.heap.size, 1, none⟩ = some (.int .u64 l)) ∧ (v.cell? ⟨q, o + j * 2, none⟩ = some (.int .u64 x.1) ∧ v.cell? ⟨q, o + j * 2 + 1, none⟩ = some (.int .u64 x.2))) := fun v hv =>
        ⟨⟨(hv.cell (p := ⟨w.heap.size, 0, none⟩) (by simp)).trans (by simp), (hv.cell (p := ⟨w.heap.size, 1, none⟩) (by simp)).trans (by simp)⟩, ⟨((HB.out v hv).cell (p := ⟨q, _, none⟩) hq).trans x0, ((HB.out v hv).cell (p := ⟨q, _, none⟩) hq).trans x1⟩⟩
      have KZ : Hid (∀ v, Below (w.heap.size + 1) (w.alloc (.cells #[.int .u64 h, .int .u64 l] 27)) v → w.heap.size + 1 ≤ v.heap.size) := fun v hv => by have := hv.size; simpa using this
      clear x0 x1 hD
      go_enter Tryz.func55, Tryz.ntmps55
      go_wp2_with fail
      refine region_q9 (C := fun v => Below (w.heap.size + 1) (w.alloc (.cells #[.int .u64 h, .int .u64 l] 27)) v) (by kernel_rfl) (by kernel_rfl) (Below.refl _ _).drew ?_
      refine wqv (u := .int .i64 (j : Int)) (by kernel_rfl) (fun v hv => by kernel_rfl) ?_
      simp only [Act.put, List.setIfInBounds_toArray, List.set_cons_zero, List.set_cons_succ]
      refine wqv (u := .bool true) (by kernel_rfl) (fun v hv => by go_simp) ?_
      simp only [Act.put, List.setIfInBounds_toArray, List.set_cons_zero, List.set_cons_succ]
      refine wqv (u := .bool true) (by kernel_rfl) (fun v hv => by kernel_rfl) ?_
      simp only [Act.put, List.setIfInBounds_toArray, List.set_cons_zero, List.set_cons_succ]
      refine wqv (u := .int .i64 (j : Int)) (by kernel_rfl) (fun v hv => by kernel_rfl) ?_
      simp only [Act.put, List.setIfInBounds_toArray, List.set_cons_zero, List.set_cons_succ]
      refine wqv (u := .slice (some ⟨q, o, none⟩) n c) (by kernel_rfl) (fun v hv => by kernel_rfl) ?_
      simp only [Act.put, List.setIfInBounds_toArray, List.set_cons_zero, List.set_cons_succ]
      refine wqv (u := .int .i64 (n : Int)) (by kernel_rfl) (fun v hv => by go_simp) ?_
      simp only [Act.put, List.setIfInBounds_toArray, List.set_cons_zero, List.set_cons_succ]
      refine wqv (u := .bool true) (by kernel_rfl) (fun v hv => by go_simp) ?_
      simp only [Act.put, List.setIfInBounds_toArray, List.set_cons_zero, List.set_cons_succ]
      refine wqv (u := .bool true) (by kernel_rfl) (fun v hv => by kernel_rfl) ?_
      simp only [Act.put, List.setIfInBounds_toArray, List.set_cons_zero, List.set_cons_succ]
      refine wqv (u := .bool true) (by kernel_rfl) (fun v hv => by kernel_rfl) ?_
      simp only [Act.put, List.setIfInBounds_toArray, List.set_cons_zero, List.set_cons_succ]
      refine wqv (u := .agg #[.int .u64 h, .int .u64 l]) (by kernel_rfl) (fun v hv => by obtain ⟨⟨y0, y1⟩, _⟩ := KC.out v hv; go_simp) ?_
      simp only [Act.put, List.setIfInBounds_toArray, List.set_cons_zero, List.set_cons_succ]
      refine wqv (u := .slice (some ⟨q, o, none⟩) n c) (by kernel_rfl) (fun v hv => by kernel_rfl) ?_
      simp only [Act.put, List.setIfInBounds_toArray, List.set_cons_zero, List.set_cons_succ]
      refine wqv (u := .int .i64 (j : Int)) (by kernel_rfl) (fun v hv => by kernel_rfl) ?_
      simp only [Act.put, List.setIfInBounds_toArray, List.set_cons_zero, List.set_cons_succ]
      refine wqv (u := .pointer (some ⟨q, o + j * 2, none⟩)) (by kernel_rfl) (fun v hv => by go_simp) ?_
      simp only [Act.put, List.setIfInBounds_toArray, List.set_cons_zero, List.set_cons_succ]
      refine wqv (u := .agg #[.int .u64 x.1, .int .u64 x.2]) (by kernel_rfl) (fun v hv => by obtain ⟨_, ⟨y0, y1⟩⟩ := KC.out v hv; go_simp) ?_
      simp only [Act.put, List.setIfInBounds_toArray, List.set_cons_zero, List.set_cons_succ]
      refine wqc (fid := 94) (args := #[.agg #[.int .u64 h, .int .u64 l], .agg #[.int .u64 x.1, .int .u64 x.2]]) (u := .int .i64 r) (by kernel_rfl) (fun v => by kernel_rfl) (fun v hv => (CC.out v).mono fun e w' h => ⟨h.1, hv.trans (h.2.mono (KZ.out v hv))⟩) ?_
      simp only [Act.put, List.setIfInBounds_toArray, List.set_cons_zero, List.set_cons_succ]
      refine wqv (u := .bool (decide (r < 0))) (by kernel_rfl) (fun v hv => by go_simp) ?_
      simp only [Act.put, List.setIfInBounds_toArray, List.set_cons_zero, List.set_cons_succ]
      refine wqv (u := .bool (decide (r < 0))) (by kernel_rfl) (fun v hv => by kernel_rfl) ?_
      simp only [Act.put, List.setIfInBounds_toArray, List.set_cons_zero, List.set_cons_succ]
      refine wqv (u := .bool (decide (r < 0))) (by kernel_rfl) (fun v hv => by kernel_rfl) ?_
      simp only [Act.put, List.setIfInBounds_toArray, List.set_cons_zero, List.set_cons_succ]
      refine wqnil (fun v hv => ?_)
      have BV := hide (HB.out v hv)
      clear hv KC KZ CC HB
      go_wp2
      go_ret
      exact ⟨by rw [HV2.out]; rfl, BV.out⟩
    · have hV : V = false := by rw [HV.out, decide_eq_false (fun e => h1 e.2), Bool.false_and]
      subst hV
      clear HV hD
      go_enter Tryz.func55, Tryz.ntmps55
      go_wp2_with fail
      refine region_q9 (C := fun v => Below (w.heap.size + 1) (w.alloc (.cells #[.int .u64 h, .int .u64 l] 27)) v) (by kernel_rfl) (by kernel_rfl) (Below.refl _ _).drew ?_
      refine wqv (u := .int .i64 nd) (by kernel_rfl) (fun v hv => by kernel_rfl) ?_
      simp only [Act.put, List.setIfInBounds_toArray, List.set_cons_zero, List.set_cons_succ]
      refine wqv (u := .bool true) (by kernel_rfl) (fun v hv => by go_simp) ?_
      simp only [Act.put, List.setIfInBounds_toArray, List.set_cons_zero, List.set_cons_succ]
      refine wqv (u := .bool true) (by kernel_rfl) (fun v hv => by kernel_rfl) ?_
      simp only [Act.put, List.setIfInBounds_toArray, List.set_cons_zero, List.set_cons_succ]
      refine wqv (u := .int .i64 nd) (by kernel_rfl) (fun v hv => by kernel_rfl) ?_
      simp only [Act.put, List.setIfInBounds_toArray, List.set_cons_zero, List.set_cons_succ]
      refine wqv (u := .slice a n c) (by kernel_rfl) (fun v hv => by kernel_rfl) ?_
      simp only [Act.put, List.setIfInBounds_toArray, List.set_cons_zero, List.set_cons_succ]
      refine wqv (u := .int .i64 (n : Int)) (by kernel_rfl) (fun v hv => by go_simp) ?_
      simp only [Act.put, List.setIfInBounds_toArray, List.set_cons_zero, List.set_cons_succ]
      refine wqv (u := .bool false) (by kernel_rfl) (fun v hv => by go_simp) ?_
      simp only [Act.put, List.setIfInBounds_toArray, List.set_cons_zero, List.set_cons_succ]
      refine wqv (u := .bool false) (by kernel_rfl) (fun v hv => by kernel_rfl) ?_
      simp only [Act.put, List.setIfInBounds_toArray, List.set_cons_zero, List.set_cons_succ]
      refine wqv (u := .bool false) (by kernel_rfl) (fun v hv => by kernel_rfl) ?_
      simp only [Act.put, List.setIfInBounds_toArray, List.set_cons_zero, List.set_cons_succ]
      refine wqskip (by kernel_rfl) ?_
      simp only [Act.put, List.setIfInBounds_toArray, List.set_cons_zero, List.set_cons_succ]
      refine wqskip (by kernel_rfl) ?_
      simp only [Act.put, List.setIfInBounds_toArray, List.set_cons_zero, List.set_cons_succ]
      refine wqskip (by kernel_rfl) ?_
      simp only [Act.put, List.setIfInBounds_toArray, List.set_cons_zero, List.set_cons_succ]
      refine wqskip (by kernel_rfl) ?_
      simp only [Act.put, List.setIfInBounds_toArray, List.set_cons_zero, List.set_cons_succ]
      refine wqskip (by kernel_rfl) ?_
      simp only [Act.put, List.setIfInBounds_toArray, List.set_cons_zero, List.set_cons_succ]
      refine wqskip (by kernel_rfl) ?_
      simp only [Act.put, List.setIfInBounds_toArray, List.set_cons_zero, List.set_cons_succ]
      refine wqskip (by kernel_rfl) ?_
      simp only [Act.put, List.setIfInBounds_toArray, List.set_cons_zero, List.set_cons_succ]
      refine wqv (u := .bool false) (by kernel_rfl) (fun v hv => by kernel_rfl) ?_
      simp only [Act.put, List.setIfInBounds_toArray, List.set_cons_zero, List.set_cons_succ]
      refine wqv (u := .bool false) (by kernel_rfl) (fun v hv => by kernel_rfl) ?_
      simp only [Act.put, List.setIfInBounds_toArray, List.set_cons_zero, List.set_cons_succ]
      refine wqnil (fun v hv => ?_)
      have BV := hide (HB.out v hv)
      clear hv HB
      go_wp2
      go_ret
      exact ⟨rfl, BV.out⟩
  · have hV : V = false := by rw [HV.out, decide_eq_false (fun e => h0 e.1), Bool.false_and]
    subst hV
    clear HV hD
    go_enter Tryz.func55, Tryz.ntmps55
    go_wp2_with fail
    refine region_q9 (C := fun v => Below (w.heap.size + 1) (w.alloc (.cells #[.int .u64 h, .int .u64 l] 27)) v) (by kernel_rfl) (by kernel_rfl) (Below.refl _ _).drew ?_
    refine wqv (u := .int .i64 nd) (by kernel_rfl) (fun v hv => by kernel_rfl) ?_
    simp only [Act.put, List.setIfInBounds_toArray, List.set_cons_zero, List.set_cons_succ]
    refine wqv (u := .bool false) (by kernel_rfl) (fun v hv => by go_simp) ?_
    simp only [Act.put, List.setIfInBounds_toArray, List.set_cons_zero, List.set_cons_succ]
    refine wqv (u := .bool false) (by kernel_rfl) (fun v hv => by kernel_rfl) ?_
    simp only [Act.put, List.setIfInBounds_toArray, List.set_cons_zero, List.set_cons_succ]
    refine wqskip (by kernel_rfl) ?_
    simp only [Act.put, List.setIfInBounds_toArray, List.set_cons_zero, List.set_cons_succ]
    refine wqskip (by kernel_rfl) ?_
    simp only [Act.put, List.setIfInBounds_toArray, List.set_cons_zero, List.set_cons_succ]
    refine wqskip (by kernel_rfl) ?_
    simp only [Act.put, List.setIfInBounds_toArray, List.set_cons_zero, List.set_cons_succ]
    refine wqskip (by kernel_rfl) ?_
    simp only [Act.put, List.setIfInBounds_toArray, List.set_cons_zero, List.set_cons_succ]
    refine wqv (u := .bool false) (by kernel_rfl) (fun v hv => by kernel_rfl) ?_
    simp only [Act.put, List.setIfInBounds_toArray, List.set_cons_zero, List.set_cons_succ]
    refine wqv (u := .bool false) (by kernel_rfl) (fun v hv => by kernel_rfl) ?_
    simp only [Act.put, List.setIfInBounds_toArray, List.set_cons_zero, List.set_cons_succ]
    refine wqskip (by kernel_rfl) ?_
    simp only [Act.put, List.setIfInBounds_toArray, List.set_cons_zero, List.set_cons_succ]
    refine wqskip (by kernel_rfl) ?_
    simp only [Act.put, List.setIfInBounds_toArray, List.set_cons_zero, List.set_cons_succ]
    refine wqskip (by kernel_rfl) ?_
    simp only [Act.put, List.setIfInBounds_toArray, List.set_cons_zero, List.set_cons_succ]
    refine wqskip (by kernel_rfl) ?_
    simp only [Act.put, List.setIfInBounds_toArray, List.set_cons_zero, List.set_cons_succ]
    refine wqskip (by kernel_rfl) ?_
    simp only [Act.put, List.setIfInBounds_toArray, List.set_cons_zero, List.set_cons_succ]
    refine wqskip (by kernel_rfl) ?_
    simp only [Act.put, List.setIfInBounds_toArray, List.set_cons_zero, List.set_cons_succ]
    refine wqskip (by kernel_rfl) ?_
    simp only [Act.put, List.setIfInBounds_toArray, List.set_cons_zero, List.set_cons_succ]
    refine wqv (u := .bool false) (by kernel_rfl) (fun v hv => by kernel_rfl) ?_
    simp only [Act.put, List.setIfInBounds_toArray, List.set_cons_zero, List.set_cons_succ]
    refine wqv (u := .bool false) (by kernel_rfl) (fun v hv => by kernel_rfl) ?_
    simp only [Act.put, List.setIfInBounds_toArray, List.set_cons_zero, List.set_cons_succ]
    refine wqnil (fun v hv => ?_)
    have BV := hide (HB.out v hv)
    clear hv HB
    go_wp2
    go_ret
    exact ⟨rfl, BV.out⟩


set_option maxRecDepth 100000 in
set_option maxHeartbeats 400000 in
/-- The document's takes. -/
theorem reftakes_any (h l h' l' : Int) (g : Bool) (w : World) : Calls Tryz.prog 53 #[.agg #[.int .u64 h, .int .u64 l], .agg #[.int .u64 h', .int .u64 l'], .bool g] w fun e w' => e = .returned (.bool (decide (0 < cmpD h l h' l') || (decide (cmpD h l h' l' = 0) && g))) ∧ Below w.heap.size w w' := by
  have bw : Hid (Below w.heap.size w ((w.alloc (.cells #[.int .u64 h, .int .u64 l] 27)).alloc (.cells #[.int .u64 h', .int .u64 l'] 27))) := ((Below.refl _ w).alloc (Nat.le_refl _) _).alloc (by simp) _
  have cr := hide (fun W => refcompare_any h l h' l' W)
  generalize cmpD h l h' l' = r at *
  obtain ⟨T, HT⟩ : ∃ T, Hid (T = (decide (0 < r) || (decide (r = 0) && g))) := ⟨_, rfl⟩
  rw [← HT.out]
  go_enter Tryz.func53, Tryz.ntmps53
  go_wp2_with fail
  refine (cr.out _).mono ?_
  rintro e w2 ⟨rfl, b2⟩
  dsimp only
  have B2 := hide (bw.out.trans (b2.mono bw.out.size))
  clear b2 cr
  by_cases h1 : 0 < r
  · have hk : Hid (T = true) := by show _ = _; rw [HT.out]; simp [h1]
    go_wp2
    go_ret
    exact ⟨by rw [hk.out]; rfl, B2.out⟩
  · by_cases h2 : r = 0
    · have hk : Hid (T = g) := by show _ = _; rw [HT.out]; simp [h2]
      have h2b : (r == 0) = true := by simp [h2]
      clear h2
      go_wp2
      go_ret
      exact ⟨by rw [hk.out]; rfl, B2.out⟩
    · have hk : Hid (T = false) := by show _ = _; rw [HT.out]; simp [h1, h2]
      have h2b : (r == 0) = false := by simp [h2]
      go_wp2
      go_ret
      exact ⟨by rw [hk.out]; rfl, B2.out⟩
set_option maxRecDepth 100000 in
set_option maxHeartbeats 1000000 in
/-- The document's PruneAcks. -/
theorem refpruneacks_any (L : List Ak) (D : List (Int × Int)) (a av : Option Addr) (n k vn vc : Nat) (w : World) (h : SlY yAkA w a n k L) (hD : SlY yD w av vn vc D) (hm : n * 32 ≤ 140737488355328) :
    Calls Tryz.prog 14 #[.slice a n k, .slice av vn vc] w fun e w' => ∃ v, e = .returned v ∧ OwnY yAkA w.heap.size w' v (Ak.prn L D) ∧ Below w.heap.size w w' := by
  have hmx := h.max
  have hcp := h.cap
  have hln := h.len
  unfold maxLen at hmx
  have H := hide h
  have HD := hide hD
  have HN := hide hln
  clear h hln hD
  have HP : Hid (∀ v w', OwnY yAkA w.heap.size w' v (Ak.prn (L.take n) D) → OwnY yAkA w.heap.size w' v (Ak.prn L D)) := fun v w' ho => by
    rwa [List.take_of_length_le (by rw [HN.out]; exact Nat.le_refl _)] at ho
  go_enter Tryz.func14, Tryz.ntmps14
  go_wp2
  go_loopw [6, 5] (fun i v wr => ∃ (j : Nat) (v5 : Value), i = .int .i64 (j : Int) ∧ j ≤ n ∧ v = v5 ∧ Hid (OwnY yAkA w.heap.size wr v5 (Ak.prn (L.take j) D)) ∧ Hid (Below w.heap.size w wr)) (fun i _ _ => n - (intOf i).toNat)
  case atStart => exact ⟨0, _, rfl, Nat.zero_le _, rfl, OwnY.nil _ _ _, Below.refl _ _⟩
  case round =>
    obtain ⟨j, v5, rfl, hj, hv5, hO, hbl⟩ := hrel
    have hv5 := hv5.symm
    subst hv5
    by_cases hlt : j < n
    · have hjl : j < L.length := by rw [HN.out]; exact hlt
      have hg : L[j]? = some L[j] := List.getElem?_eq_getElem hjl
      have hpl : Hid ((Ak.prn (L.take j) D).length ≤ j) := by
        show _ ≤ _
        unfold Ak.prn
        refine Nat.le_trans (List.length_filter_le _ _) ?_
        rw [List.length_take]
        omega
      have hst : Hid (Ak.prn (L.take (j + 1)) D = Ak.prn (L.take j) D ++ (if ovr D L[j].n L[j].h L[j].l = true then [] else [L[j]])) := by
        show _ = _
        unfold Ak.prn
        rw [List.take_add_one, hg, Option.toList_some, List.filter_append]
        congr 1
        cases hV : ovr D L[j].n L[j].h L[j].l <;> simp [hV]
      obtain ⟨q, o, ea, hq, _⟩ := (H.out.later hbl.out).AkA hg
      have KS : Hid (∀ v, Below w.heap.size w v → v.cell? ⟨q, o + j * 4, none⟩ = some (.int .i64 L[j].n) ∧ v.cell? ⟨q, o + j * 4 + 1, none⟩ = some (.int .u64 L[j].h) ∧ v.cell? ⟨q, o + j * 4 + 2, none⟩ = some (.int .u64 L[j].l) ∧ v.cell? ⟨q, o + j * 4 + 3, none⟩ = some (.int .i64 L[j].p)) := fun v hv => by
        obtain ⟨q', o', ea', _, y0, y1, y2, y3⟩ := (H.out.later hv).AkA hg
        rw [ea] at ea'
        cases ea'
        exact ⟨y0, y1, y2, y3⟩
      cases ea
      clear hg
      generalize L[j] = x at *
      have co := hide (fun W (hW : Below w.heap.size w W) => refover_any D av vn vc x.n x.h x.l W (HD.out.later hW))
      generalize ovr D x.n x.h x.l = V at *
      have zr := hbl.out.size
      have s0 := KS.out _ hbl.out.drew
      generalize Ak.prn (L.take j) D = PJ at *
      go_wp2_with fail
      go_region_held3 (fun v => v.cell? ⟨q, o + j * 4, none⟩ = some (.int .i64 x.n) ∧ v.cell? ⟨q, o + j * 4 + 1, none⟩ = some (.int .u64 x.h) ∧ v.cell? ⟨q, o + j * 4 + 2, none⟩ = some (.int .u64 x.l) ∧ v.cell? ⟨q, o + j * 4 + 3, none⟩ = some (.int .i64 x.p)) (with_reducible assumption) (first
        | (go_at_call 55; refine (co.out _ hbl.out.drew).mono ?_; rintro e w2 ⟨rfl, b2⟩; have C2 := hide ((Below.refl wr.heap.size wr).drew.trans b2); have D2 := hide (hbl.out.trans (C2.out.mono zr)); have s2 := KS.out w2 D2.out; clear b2))
      obtain ⟨t0, t1, t2, t3⟩ := KS.out w2 D2.out
      have O2 := hide (hO.out.grow C2.out)
      clear hO co
      cases V with
      | true =>
        have hst2 : Hid (OwnY yAkA w.heap.size w2 v5 (Ak.prn (L.take (j + 1)) D)) := by show OwnY _ _ _ _ _; rw [hst.out, if_pos rfl, List.append_nil]; exact O2.out
        go_wp2
        go_round
        case rel => exact ⟨j + 1, v5, by go_num, by omega, rfl, hst2, D2⟩
        case measure => first | (simp [intOf]; done) | (simp [intOf]; omega)
      | false =>
        have SB : Hid (SlY yAkA (w2.alloc (.cells #[.int .i64 x.n, .int .u64 x.h, .int .u64 x.l, .int .i64 x.p] 29)) (some ⟨w2.heap.size, 0, none⟩) 1 1 [x]) := sl_box (Y := yAkA) w2 x 29
        have D3 := hide (D2.out.alloc D2.out.size (.cells #[.int .i64 x.n, .int .u64 x.h, .int .u64 x.l, .int .i64 x.p] 29))
        have O3 := hide (O2.out.alloc (.cells #[.int .i64 x.n, .int .u64 x.h, .int .u64 x.l, .int .i64 x.p] 29))
        have z3 : w.heap.size ≤ (w2.alloc (.cells #[.int .i64 x.n, .int .u64 x.h, .int .u64 x.l, .int .i64 x.p] 29)).heap.size := D3.out.size
        go_upto_region 6 with fail
        go_wp2_with (at_builtin; go_must (refine appY kAkA _ rfl (.tmp 26) (.tmp 31) rfl w.heap.size PJ _ rfl (some ⟨w2.heap.size, 0, none⟩) 1 1 rfl [x] SB.out O3.out z3 (by unfold maxLen; have := hpl.out; omega) (by show (_ + 1) * 32 ≤ _; have := hpl.out; omega) ?_))
        intro v' w4 o4 g4 e4
        have D4 := hide (O3.out.grown D3.out g4 z3)
        have O4 : Hid (OwnY yAkA w.heap.size w4 v' (Ak.prn (L.take (j + 1)) D)) := by show OwnY _ _ _ _ _; rw [hst.out, if_neg (by simp)]; exact o4
        clear o4 g4 e4
        go_wp2
        go_round
        case rel => exact ⟨j + 1, v', by go_num, by omega, rfl, O4, D4⟩
        case measure => first | (simp [intOf]; done) | (simp [intOf]; omega)
    · obtain rfl : j = n := by omega
      have O9 := hide (HP.out _ _ hO.out)
      clear hO HP
      go_wp2
      go_ret
      exact ⟨_, rfl, O9.out, hbl.out⟩

end Go.Proofs.YtipkflaamncmbaaGreat

namespace Go.Proofs.YtipkflaamncmbaaGreat
open Go.RowKit Go.Maps
set_option linter.unusedVariables false
set_option linter.unusedSimpArgs false

set_option maxRecDepth 100000 in
set_option maxHeartbeats 1000000 in
theorem sameacks80_any (L : List Ak) (a b : Option Addr) (n c c2 : Nat) (w : World) (hL : SlY yAkA w a n c L) (hR : SlY yAkA w b n c2 L) :
    Calls Tryz.prog 49 #[.slice a n c, .slice b n c2] w fun e w' => e = .returned (.bool true) ∧ ∃ k, w' = w.drewN k := by
  have m1 := hL.max
  have m2 := hR.max
  have p1 := hL.cap
  have p2 := hR.cap
  unfold maxLen at m1 m2
  have HL := hide hL
  have HR := hide hR
  have N1 := hide hL.len
  clear hL hR
  go_enter Tryz.func49, Tryz.ntmps49
  go_wp2
  go_loopw [5] (fun i wr => ∃ (j d : Nat), i = .int .i64 (j : Int) ∧ j ≤ n ∧ wr = w.drewN d) (fun i _ => n - (intOf i).toNat)
  case atStart => exact ⟨0, 0, rfl, Nat.zero_le _, rfl⟩
  case round =>
    obtain ⟨j, d, rfl, hj, rfl⟩ := hrel
    by_cases hlt : j < n
    · have h1 : j < L.length := by rw [N1.out]; exact hlt
      have g1 : L[j]? = some L[j] := List.getElem?_eq_getElem h1
      obtain ⟨q, o, rfl, hq, a0, a1, a2, a3⟩ := HL.out.AkA g1
      obtain ⟨q2, o2, rfl, hq2, b0, b1, b2, b3⟩ := HR.out.AkA g1
      clear g1
      generalize L[j] = x at *
      have KC : Hid (∀ v, (∃ k, v = w.drewN k) → (v.cell? ⟨q, o + j * 4, none⟩ = some (.int .i64 x.n) ∧ v.cell? ⟨q, o + j * 4 + 1, none⟩ = some (.int .u64 x.h) ∧ v.cell? ⟨q, o + j * 4 + 2, none⟩ = some (.int .u64 x.l) ∧ v.cell? ⟨q, o + j * 4 + 3, none⟩ = some (.int .i64 x.p)) ∧ (v.cell? ⟨q2, o2 + j * 4, none⟩ = some (.int .i64 x.n) ∧ v.cell? ⟨q2, o2 + j * 4 + 1, none⟩ = some (.int .u64 x.h) ∧ v.cell? ⟨q2, o2 + j * 4 + 2, none⟩ = some (.int .u64 x.l) ∧ v.cell? ⟨q2, o2 + j * 4 + 3, none⟩ = some (.int .i64 x.p))) := fun v hv => by
        obtain ⟨k, rfl⟩ := hv
        exact ⟨⟨a0, a1, a2, a3⟩, ⟨b0, b1, b2, b3⟩⟩
      clear a0 a1 a2 a3 b0 b1 b2 b3
      go_wp2_with fail
      refine region_q9 (C := fun v => ∃ k, v = w.drewN k) (by kernel_rfl) (by kernel_rfl) ⟨d + 1, rfl⟩ ?_
      refine wqv (u := .slice (some ⟨q, o, none⟩) n c) (by kernel_rfl) (fun v hv => by kernel_rfl) ?_
      simp only [Act.put, List.setIfInBounds_toArray, List.set_cons_zero, List.set_cons_succ]
      refine wqv (u := .int .i64 (j : Int)) (by kernel_rfl) (fun v hv => by kernel_rfl) ?_
      simp only [Act.put, List.setIfInBounds_toArray, List.set_cons_zero, List.set_cons_succ]
      refine wqv (u := .pointer (some ⟨q, o + j * 4, none⟩)) (by kernel_rfl) (fun v hv => by go_simp) ?_
      simp only [Act.put, List.setIfInBounds_toArray, List.set_cons_zero, List.set_cons_succ]
      refine wqv (u := x.val) (by kernel_rfl) (fun v hv => by obtain ⟨⟨y0, y1, y2, y3⟩, _⟩ := KC.out v hv; go_simp; rfl) ?_
      simp only [Act.put, List.setIfInBounds_toArray, List.set_cons_zero, List.set_cons_succ]
      refine wqv (u := .slice (some ⟨q2, o2, none⟩) n c2) (by kernel_rfl) (fun v hv => by kernel_rfl) ?_
      simp only [Act.put, List.setIfInBounds_toArray, List.set_cons_zero, List.set_cons_succ]
      refine wqv (u := .int .i64 (j : Int)) (by kernel_rfl) (fun v hv => by kernel_rfl) ?_
      simp only [Act.put, List.setIfInBounds_toArray, List.set_cons_zero, List.set_cons_succ]
      refine wqv (u := .pointer (some ⟨q2, o2 + j * 4, none⟩)) (by kernel_rfl) (fun v hv => by go_simp) ?_
      simp only [Act.put, List.setIfInBounds_toArray, List.set_cons_zero, List.set_cons_succ]
      refine wqv (u := x.val) (by kernel_rfl) (fun v hv => by obtain ⟨_, ⟨y0, y1, y2, y3⟩⟩ := KC.out v hv; go_simp; rfl) ?_
      simp only [Act.put, List.setIfInBounds_toArray, List.set_cons_zero, List.set_cons_succ]
      refine wqv (u := .bool false) (by kernel_rfl) (fun v hv => by unfold Ak.val; go_simp) ?_
      simp only [Act.put, List.setIfInBounds_toArray, List.set_cons_zero, List.set_cons_succ]
      refine wqnil (fun v hv => ?_)
      obtain ⟨k, rfl⟩ := hv
      go_wp2
      go_round
      case rel => exact ⟨j + 1, k, by go_num, by omega, rfl⟩
      case measure => simp [intOf]; omega
    · obtain rfl : j = n := by omega
      go_wp2
      go_ret
      exact ⟨rfl, d, rfl⟩
theorem sameacks8_any (L : List Ak) (a b : Option Addr) (n c c2 : Nat) (w : World) (hL : SlY yAkA w a n c L) (hR : SlY yAkA w b n c2 L) :
    Calls Tryz.prog 10 #[.slice a n c, .slice b n c2] w fun e w' => e = .returned (.bool true) ∧ ∃ k, w' = w.drewN k := by
  have cs := hide (sameacks80_any L a b n c c2 w hL hR)
  clear hL hR
  go_enter Tryz.func10, Tryz.ntmps10
  go_wp2_with fail
  refine cs.out.mono ?_
  rintro e w' ⟨rfl, k, rfl⟩
  dsimp only
  go_wp2
  go_ret
  exact ⟨rfl, k, rfl⟩

set_option maxRecDepth 100000 in
set_option maxHeartbeats 400000 in
/-- Marks with another one in the room behind them. -/
theorem lentacks_any (L : List Ak) (a : Option Addr) (n k : Nat) (w : World) (h : SlY yAkA w a n k L) (hm : (n + 1) * 32 ≤ 140737488355328) :
    Calls Tryz.prog 6 #[.slice a n k] w fun e w' => ∃ g c, e = .returned (.slice (some ⟨g, 0, none⟩) n c) ∧ n + 1 ≤ c ∧ w.heap.size ≤ g ∧ SlY yAkA w' (some ⟨g, 0, none⟩) n c L ∧ SlY yAkA w' (some ⟨g, 0, none⟩) (n + 1) c (L ++ [⟨-77, 0, 0, 0⟩]) ∧ Below w.heap.size w w' := by
  have hmx := h.max
  have hcp := h.cap
  have hln := h.len
  unfold maxLen at hmx
  have H := hide h
  have HN := hide hln
  clear h hln
  go_enter Tryz.func6, Tryz.ntmps6
  go_upto_region 2 with fail
  go_wp2_with (at_builtin; go_must (refine appY kAkA _ rfl (.tmp 4) (.tmp 5) rfl w.heap.size [] _ rfl a n k rfl L H.out (OwnY.nil _ _ _) (Nat.le_refl _) (by unfold maxLen; simp; omega) (by show (0 + n) * 32 ≤ _; omega) ?_))
  intro v1 w1 o1 g1 e1
  have D1 := hide (OwnY.grown (OwnY.nil yAkA w.heap.size _) (Below.refl _ w) g1 (Nat.le_refl _))
  have O1 : Hid (OwnY yAkA w.heap.size w1 v1 L) := o1
  clear o1 g1 e1
  have z1 := D1.out.size
  have SB : Hid (SlY yAkA (w1.alloc (.cells #[.int .i64 (-77), .int .u64 0, .int .u64 0, .int .i64 0] 29)) (some ⟨w1.heap.size, 0, none⟩) 1 1 [⟨-77, 0, 0, 0⟩]) := sl_box (Y := yAkA) w1 (⟨-77, 0, 0, 0⟩ : Ak) 29
  have D2 := hide (D1.out.alloc z1 (.cells #[.int .i64 (-77), .int .u64 0, .int .u64 0, .int .i64 0] 29))
  have O2 := hide (O1.out.alloc (.cells #[.int .i64 (-77), .int .u64 0, .int .u64 0, .int .i64 0] 29))
  have z2 : w.heap.size ≤ (w1.alloc (.cells #[.int .i64 (-77), .int .u64 0, .int .u64 0, .int .i64 0] 29)).heap.size := D2.out.size
  try dsimp only
  go_upto_region 3 with fail
  go_wp2_with (at_builtin; go_must (refine appY kAkA _ rfl (.tmp 7) (.tmp 9) rfl w.heap.size L _ rfl (some ⟨w1.heap.size, 0, none⟩) 1 1 rfl [⟨-77, 0, 0, 0⟩] SB.out O2.out z2 (by rw [HN.out]; unfold maxLen; omega) (by show (_ + 1) * 32 ≤ _; rw [HN.out]; omega) ?_))
  intro v3 w3 o3 g3 e3
  have D3 := hide (O2.out.grown D2.out g3 z2)
  obtain ⟨a3, c3, rfl, s3, hb3⟩ := o3.sl kAkA
  have hl3 : (L ++ [(⟨-77, 0, 0, 0⟩ : Ak)]).length = n + 1 := by rw [List.length_append, HN.out]; rfl
  rw [hl3] at s3 ⊢
  obtain ⟨g, rfl⟩ : ∃ g, a3 = some ⟨g, 0, none⟩ := by
    cases a3 with
    | none => have := s3.nil rfl; rw [this.1] at hl3; simp at hl3
    | some z => obtain ⟨g, rfl, _⟩ := hb3 z rfl; exact ⟨g, rfl⟩
  have hgB : w.heap.size ≤ g := by obtain ⟨g', e, h1, _⟩ := hb3 _ rfl; cases e; exact h1
  have hc3 := s3.cap
  have hm3 := s3.max
  unfold maxLen at hm3
  have S3 := hide s3
  have S4 : Hid (SlY yAkA w3 (some ⟨g, 0, none⟩) n c3 L) := by
    have := s3.take n (by omega)
    rw [List.take_left' HN.out] at this
    exact this
  clear s3 o3 g3 e3 hb3 O1 O2 SB D1 D2
  go_wp2
  go_ret
  exact ⟨g, c3, rfl, by omega, hgB, S4.out, S3.out, D3.out⟩
set_option maxRecDepth 100000 in
set_option maxHeartbeats 400000 in
theorem keptacks_any (L : List Ak) (g c : Nat) (a : Option Addr) (n k : Nat) (w : World) (h1 : SlY yAkA w (some ⟨g, 0, none⟩) n c L) (h2 : SlY yAkA w (some ⟨g, 0, none⟩) (n + 1) c (L ++ [⟨-77, 0, 0, 0⟩])) (h3 : SlY yAkA w a n k L) :
    Calls Tryz.prog 17 #[.slice (some ⟨g, 0, none⟩) n c, .slice a n k] w fun e w' => e = .returned (.bool true) ∧ ∃ d, w' = w.drewN d := by
  have hc := h2.cap
  have hmx := h2.max
  unfold maxLen at hmx
  have hln := h1.len
  have cs := hide (sameacks8_any L _ a n c k w h1 h3)
  have hx : (L ++ [(⟨-77, 0, 0, 0⟩ : Ak)])[n]? = some ⟨-77, 0, 0, 0⟩ := by rw [List.getElem?_append_right (by omega), hln, Nat.sub_self]; rfl
  have KS : Hid (∀ d, (w.drewN d).cell? ⟨g, 0 + n * 4, none⟩ = some (.int .i64 (-77)) ∧ (w.drewN d).cell? ⟨g, 0 + n * 4 + 1, none⟩ = some (.int .u64 0) ∧ (w.drewN d).cell? ⟨g, 0 + n * 4 + 2, none⟩ = some (.int .u64 0) ∧ (w.drewN d).cell? ⟨g, 0 + n * 4 + 3, none⟩ = some (.int .i64 0)) := fun d => by
    obtain ⟨q', o', e, _, y0, y1, y2, y3⟩ := (h2.drewN d).AkA hx
    cases e
    exact ⟨y0, y1, y2, y3⟩
  have hw : IntKind.i64.wrap ((n : Int) + 1) = (n : Int) + 1 := by rw [IntKind.wrap_i64]; omega
  clear h1 h2 h3 hln hx
  go_enter Tryz.func17, Tryz.ntmps17
  go_wp2_with fail
  refine cs.out.mono ?_
  rintro e w1 ⟨rfl, d, rfl⟩
  dsimp only
  obtain ⟨y0, y1, y2, y3⟩ := KS.out d
  simp only [Nat.zero_add] at y0 y1 y2 y3
  clear cs
  go_wp2
  go_ret
  exact ⟨rfl, d, rfl⟩

end Go.Proofs.YtipkflaamncmbaaGreat

namespace Go.Proofs.YtipkflaamncmbaaGreat
open Go.RowKit Go.Maps
set_option linter.unusedVariables false
set_option linter.unusedSimpArgs false

/-- The list behind j turns of the document's insertion. -/
def insK (L : List Ak) (x : Ak) (b : Bool) (j : Nat) : List Ak := if b = true then L.take (Ak.at_ L x) ++ x :: (L.take j).drop (Ak.at_ L x) else L.take j
/-- What the document knows behind j turns. -/
def InsL (L : List Ak) (x : Ak) (b : Bool) (j : Nat) : Prop := if b = true then Ak.at_ L x < j else ∀ (i : Nat) (y : Ak), i < j → L[i]? = some y → ¬ x.n < y.n
theorem at_firstK {L : List Ak} {x y : Ak} {j : Nat} (h : InsL L x false j) (hy : L[j]? = some y) (hx : x.n < y.n) : Ak.at_ L x = j := by
  have h : ∀ (i : Nat) (y : Ak), i < j → L[i]? = some y → ¬ x.n < y.n := h
  unfold Ak.at_
  obtain ⟨hj, e⟩ := List.getElem?_eq_some_iff.1 hy
  have : L.findIdx? (fun y => decide (x.n < y.n)) = some j := by
    rw [List.findIdx?_eq_some_iff_getElem]
    refine ⟨hj, by rw [e]; simpa using hx, fun i hi => ?_⟩
    have := h i _ hi (List.getElem?_eq_getElem (by omega))
    simpa using this
  rw [this]
  rfl
theorem at_noneK {L : List Ak} {x : Ak} (h : InsL L x false L.length) : Ak.at_ L x = L.length := by
  have h : ∀ (i : Nat) (y : Ak), i < L.length → L[i]? = some y → ¬ x.n < y.n := h
  unfold Ak.at_
  have : L.findIdx? (fun y => decide (x.n < y.n)) = none := by
    rw [List.findIdx?_eq_none_iff]
    intro y hy
    obtain ⟨i, hi, rfl⟩ := List.mem_iff_getElem.1 hy
    have := h i _ hi (List.getElem?_eq_getElem hi)
    simpa using this
  rw [this]
  rfl
theorem insK_end {L : List Ak} {x : Ak} : insK L x true L.length = Ak.ins L x := by
  unfold insK Ak.ins
  rw [if_pos rfl, List.take_length]
theorem insK_none {L : List Ak} {x : Ak} (h : InsL L x false L.length) : insK L x false L.length ++ [x] = Ak.ins L x := by
  unfold insK Ak.ins
  rw [if_neg (by simp), at_noneK h, List.take_length, List.drop_length]
theorem insK_same {L : List Ak} {x y : Ak} {j : Nat} (hy : L[j]? = some y) : insK L x false j ++ [y] = insK L x false (j + 1) := by
  unfold insK
  rw [if_neg (by simp), if_neg (by simp), List.take_add_one, hy]
  rfl
theorem insK_on {L : List Ak} {x y : Ak} {j : Nat} (h : InsL L x true j) (hy : L[j]? = some y) : insK L x true j ++ [y] = insK L x true (j + 1) := by
  have h : Ak.at_ L x < j := h
  obtain ⟨hj, _⟩ := List.getElem?_eq_some_iff.1 hy
  unfold insK
  rw [if_pos rfl, if_pos rfl, List.take_add_one, hy, Option.toList_some, List.drop_append_of_le_length (by rw [List.length_take]; omega)]
  simp
theorem insK_turn {L : List Ak} {x y : Ak} {j : Nat} (h : InsL L x false j) (hy : L[j]? = some y) (hx : x.n < y.n) : insK L x false j ++ [x] ++ [y] = insK L x true (j + 1) := by
  have e := at_firstK h hy hx
  obtain ⟨hj, _⟩ := List.getElem?_eq_some_iff.1 hy
  unfold insK
  rw [if_neg (by simp), if_pos rfl, e, List.take_add_one, hy, Option.toList_some, List.drop_left' (by rw [List.length_take]; omega)]
  simp
theorem InsL_same {L : List Ak} {x y : Ak} {j : Nat} (h : InsL L x false j) (hy : L[j]? = some y) (hx : ¬ x.n < y.n) : InsL L x false (j + 1) := by
  have h : ∀ (i : Nat) (y : Ak), i < j → L[i]? = some y → ¬ x.n < y.n := h
  show ∀ (i : Nat) (y : Ak), i < j + 1 → L[i]? = some y → ¬ x.n < y.n
  intro i z hi hz
  by_cases e : i = j
  · subst e
    rw [hy] at hz
    cases hz
    exact hx
  · exact h i z (by omega) hz
theorem InsL_on {L : List Ak} {x : Ak} {j : Nat} (h : InsL L x true j) : InsL L x true (j + 1) := by
  have h : Ak.at_ L x < j := h
  show Ak.at_ L x < j + 1
  omega
theorem InsL_turn {L : List Ak} {x y : Ak} {j : Nat} (h : InsL L x false j) (hy : L[j]? = some y) (hx : x.n < y.n) : InsL L x true (j + 1) := by
  show Ak.at_ L x < j + 1
  rw [at_firstK h hy hx]
  omega
theorem insK_len (L : List Ak) (x : Ak) (b : Bool) (j : Nat) (n : Nat) (hn : L.length = n) (hj : j ≤ n) (h : InsL L x b j) : (insK L x b j).length ≤ j + 1 := by
  unfold insK
  cases b with
  | true =>
    have h : Ak.at_ L x < j := h
    rw [if_pos rfl]
    simp
    omega
  | false =>
    rw [if_neg (by simp)]
    simp
    omega
/-- What stands in the list by a put, where the voter is found at j. -/
theorem put_foundK {L : List Ak} {x y : Ak} {j : Nat} (h : ∀ (i : Nat) (z : Ak), i < j → L[i]? = some z → z.n ≠ x.n) (hy : L[j]? = some y) (hx : y.n = x.n) : Ak.put L x = if Ak.rep x y = true then L.set j x else L := by
  unfold Ak.put
  obtain ⟨hj, e⟩ := List.getElem?_eq_some_iff.1 hy
  have : L.findIdx? (fun y => decide (y.n = x.n)) = some j := by
    rw [List.findIdx?_eq_some_iff_getElem]
    refine ⟨hj, by rw [e]; simpa using hx, fun i hi => ?_⟩
    have := h i _ hi (List.getElem?_eq_getElem (by omega))
    simpa using this
  rw [this]
  dsimp only
  rw [List.getD_eq_getElem?_getD, hy, Option.getD_some]
theorem put_newK {L : List Ak} {x : Ak} (h : ∀ (i : Nat) (z : Ak), i < L.length → L[i]? = some z → z.n ≠ x.n) : Ak.put L x = Ak.ins L x := by
  unfold Ak.put
  have : L.findIdx? (fun y => decide (y.n = x.n)) = none := by
    rw [List.findIdx?_eq_none_iff]
    intro y hy
    obtain ⟨i, hi, rfl⟩ := List.mem_iff_getElem.1 hy
    have := h i _ hi (List.getElem?_eq_getElem hi)
    simpa using this
  rw [this]

end Go.Proofs.YtipkflaamncmbaaGreat

namespace Go.Proofs.YtipkflaamncmbaaGreat
open Go.RowKit Go.Maps
set_option linter.unusedVariables false
set_option linter.unusedSimpArgs false

set_option maxRecDepth 100000 in
set_option maxHeartbeats 2000000 in
/-- The document's PutAck. -/
theorem refputack_any (L : List Ak) (x : Ak) (a : Option Addr) (n k : Nat) (w : World) (h : SlY yAkA w a n k L) (hm : (n + 3) * 32 ≤ 140737488355328) :
    Calls Tryz.prog 12 #[.slice a n k, .agg #[.int .i64 x.n, .int .u64 x.h, .int .u64 x.l, .int .i64 x.p]] w fun e w' => ∃ v, e = .returned v ∧ OwnY yAkA w.heap.size w' v (Ak.put L x) ∧ Below w.heap.size w w' := by
  have hmx := h.max
  have hcp := h.cap
  have hln := h.len
  unfold maxLen at hmx
  have H := hide h
  have HN := hide hln
  clear h hln
  have hb1 : ∀ i, i ≤ n → i + 2 + 1 ≤ maxLen := fun i hi => by unfold maxLen; omega
  have hb2 : ∀ i, i ≤ n → (i + 3) * 32 ≤ 140737488355328 := fun i hi => Nat.le_trans (Nat.mul_le_mul_right 32 (Nat.add_le_add_right hi 3)) hm
  have HM := hide hm
  have hm1 : n * 32 ≤ 140737488355328 := Nat.le_trans (Nat.mul_le_mul_right 32 (Nat.le_add_right n 3)) hm
  clear hm
  have HB1 := hide hb1
  have HB2 := hide hb2
  clear hb1 hb2
  have B0 : Hid (Below w.heap.size w (w.alloc (.cells #[.int .i64 x.n, .int .u64 x.h, .int .u64 x.l, .int .i64 x.p] 29))) := (Below.refl _ w).alloc (Nat.le_refl _) _
  have hwz : Hid ((w.alloc (.cells #[.int .i64 x.n, .int .u64 x.h, .int .u64 x.l, .int .i64 x.p] 29)).heap.size = w.heap.size + 1) := by show _ = _; simp
  have KX : Hid (∀ v, Below (w.heap.size + 1) (w.alloc (.cells #[.int .i64 x.n, .int .u64 x.h, .int .u64 x.l, .int .i64 x.p] 29)) v → v.cell? ⟨w.heap.size, 0, none⟩ = some (.int .i64 x.n) ∧ v.cell? ⟨w.heap.size, 1, none⟩ = some (.int .u64 x.h) ∧ v.cell? ⟨w.heap.size, 2, none⟩ = some (.int .u64 x.l) ∧ v.cell? ⟨w.heap.size, 3, none⟩ = some (.int .i64 x.p)) := fun v hv =>
    ⟨(hv.cell (p := ⟨w.heap.size, 0, none⟩) (by simp)).trans (by simp), (hv.cell (p := ⟨w.heap.size, 1, none⟩) (by simp)).trans (by simp), (hv.cell (p := ⟨w.heap.size, 2, none⟩) (by simp)).trans (by simp), (hv.cell (p := ⟨w.heap.size, 3, none⟩) (by simp)).trans (by simp)⟩
  obtain ⟨PL, HPL⟩ : ∃ PL, Hid (PL = Ak.put L x) := ⟨_, rfl⟩
  rw [← HPL.out]
  go_enter Tryz.func12, Tryz.ntmps12
  go_wp2
  generalize hw0 : w.alloc (.cells #[.int .i64 x.n, .int .u64 x.h, .int .u64 x.l, .int .i64 x.p] 29) = w0 at *
  go_loopw [6, 5] (fun i v wr => ∃ (j d : Nat), i = .int .i64 (j : Int) ∧ j ≤ n ∧ v = .slice none 0 0 ∧ Hid (∀ (i : Nat) (z : Ak), i < j → L[i]? = some z → z.n ≠ x.n) ∧ wr = w0.drewN d) (fun i _ _ => n - (intOf i).toNat)
  case atStart => exact ⟨0, 0, rfl, Nat.zero_le _, rfl, fun i z h => absurd h (Nat.not_lt_zero _), rfl⟩
  case round =>
    obtain ⟨j, d, rfl, hj, rfl, hno, rfl⟩ := hrel
    by_cases hlt : j < n
    · have hjl : j < L.length := by rw [HN.out]; exact hlt
      have hg : L[j]? = some L[j] := List.getElem?_eq_getElem hjl
      have hnext : Hid (L[j].n ≠ x.n → ∀ (i : Nat) (z : Ak), i < j + 1 → L[i]? = some z → z.n ≠ x.n) := fun hne i z hi hz => by
        by_cases e : i = j
        · subst e
          rw [hg] at hz
          cases hz
          exact hne
        · exact hno.out i z (by omega) hz
      have hfound : Hid (L[j].n = x.n → PL = if Ak.rep x L[j] = true then L.set j x else L) := fun he => by rw [HPL.out]; exact put_foundK hno.out hg he
      obtain ⟨q, o, ea, hq, _⟩ := (H.out.later (belNN B0.out d)).AkA hg
      have KY : Hid (∀ v, Below w.heap.size w v → v.cell? ⟨q, o + j * 4, none⟩ = some (.int .i64 L[j].n) ∧ v.cell? ⟨q, o + j * 4 + 1, none⟩ = some (.int .u64 L[j].h) ∧ v.cell? ⟨q, o + j * 4 + 2, none⟩ = some (.int .u64 L[j].l) ∧ v.cell? ⟨q, o + j * 4 + 3, none⟩ = some (.int .i64 L[j].p)) := fun v hv => by
        obtain ⟨q', o', ea', _, y0, y1, y2, y3⟩ := (H.out.later hv).AkA hg
        rw [ea] at ea'
        cases ea'
        exact ⟨y0, y1, y2, y3⟩
      cases ea
      have hget : Hid (L[j]? = some L[j]) := hg
      clear hg hno
      generalize L[j] = y at *
      have s0 : (w0.drewN d).drew.cell? ⟨q, o + j * 4, none⟩ = some (.int .i64 y.n) ∧ (w0.drewN d).drew.cell? ⟨w.heap.size, 0, none⟩ = some (.int .i64 x.n) := ⟨(KY.out _ (belNN B0.out (d + 1))).1, (KX.out _ (belNN (Below.refl _ w0) (d + 1))).1⟩
      go_wp2_with fail
      go_region_held3 (fun v => v.cell? ⟨q, o + j * 4, none⟩ = some (.int .i64 y.n) ∧ v.cell? ⟨w.heap.size, 0, none⟩ = some (.int .i64 x.n)) (with_reducible assumption) (fail)
      by_cases he : y.n = x.n
      · have heb : (y.n == x.n) = true := by simp [he]
        have hF := hide (hfound.out he)
        clear he hfound hnext s0
        have X0 : Hid (Below (w.heap.size + 1) w0 (w0.drewN d).drew) := (belNN (Below.refl _ _) d).drew
        generalize (w0.drewN d).drew = wd at *
        have zd : w.heap.size + 1 ≤ wd.heap.size := by have := X0.out.size; rwa [hwz.out] at this
        have HLd := hide (H.out.later (B0.out.trans (X0.out.mono (by omega))))
        go_upto_region 6 with fail
        go_wp2_with (at_builtin; go_must (refine appY kAkA _ rfl (.tmp 23) (.tmp 24) rfl (w.heap.size + 1) [] _ rfl (some ⟨q, o, none⟩) n k rfl L HLd.out (OwnY.nil _ _ _) zd (by unfold maxLen; simp; omega) (by show (0 + n) * 32 ≤ 140737488355328; rw [Nat.zero_add]; exact hm1) ?_))
        intro v1 w1 o1 g1 e1
        have X1 := hide (OwnY.grown (OwnY.nil yAkA (w.heap.size + 1) _) X0.out g1 zd)
        have O1 : Hid (OwnY yAkA (w.heap.size + 1) w1 v1 L) := o1
        obtain ⟨a1, c1, rfl, s1, hb1⟩ := O1.out.sl kAkA
        have hL0 : L ≠ [] := by rintro rfl; simp at hjl
        obtain ⟨g, rfl⟩ : ∃ g, a1 = some ⟨g, 0, none⟩ := by
          cases a1 with
          | none => exact absurd (s1.nil rfl).1 (by simpa using hL0)
          | some z => obtain ⟨g, rfl, _⟩ := hb1 z rfl; exact ⟨g, rfl⟩
        have hgB : w.heap.size + 1 ≤ g := by obtain ⟨g', e, h1, _⟩ := hb1 _ rfl; cases e; exact h1
        have hc1 := s1.cap
        rw [HN.out] at hc1 O1 ⊢
        clear o1 g1 e1 s1 hb1 HLd
        have ct := hide (fun W => reftakes_any x.h x.l y.h y.l (decide (y.p < x.p)) W)
        have HR : Hid ((decide (0 < cmpD x.h x.l y.h y.l) || (decide (cmpD x.h x.l y.h y.l = 0) && decide (y.p < x.p))) = Ak.rep x y) := rfl
        rw [HR.out] at ct
        generalize Ak.rep x y = T at *
        have K1 : Hid (∀ v, Below (w.heap.size + 1) w0 v → (v.cell? ⟨w.heap.size, 1, none⟩ = some (.int .u64 x.h) ∧ v.cell? ⟨w.heap.size, 2, none⟩ = some (.int .u64 x.l) ∧ v.cell? ⟨w.heap.size, 3, none⟩ = some (.int .i64 x.p)) ∧ v.cell? ⟨q, o + j * 4 + 1, none⟩ = some (.int .u64 y.h) ∧ v.cell? ⟨q, o + j * 4 + 2, none⟩ = some (.int .u64 y.l) ∧ v.cell? ⟨q, o + j * 4 + 3, none⟩ = some (.int .i64 y.p)) := fun v hv => ⟨(KX.out v hv).2, (KY.out v (B0.out.trans (hv.mono (by omega)))).2⟩
        have s1 := K1.out _ X1.out.drew
        try dsimp only
        go_wp2_with fail
        go_region_held3 (fun v => (v.cell? ⟨w.heap.size, 1, none⟩ = some (.int .u64 x.h) ∧ v.cell? ⟨w.heap.size, 2, none⟩ = some (.int .u64 x.l) ∧ v.cell? ⟨w.heap.size, 3, none⟩ = some (.int .i64 x.p)) ∧ v.cell? ⟨q, o + j * 4 + 1, none⟩ = some (.int .u64 y.h) ∧ v.cell? ⟨q, o + j * 4 + 2, none⟩ = some (.int .u64 y.l) ∧ v.cell? ⟨q, o + j * 4 + 3, none⟩ = some (.int .i64 y.p)) (with_reducible assumption) (first
          | (go_at_call 53; refine (ct.out _).mono ?_; rintro e w2 ⟨rfl, b2⟩; have C2 := hide ((Below.refl w1.heap.size w1).drew.trans b2); have X2 := hide (X1.out.trans (C2.out.mono (by have := X1.out.size; rwa [hwz.out] at this))); have s2 := K1.out w2 X2.out; clear b2))
        have O2 := hide (O1.out.grow C2.out)
        obtain ⟨x0, x1, x2, x3⟩ := KX.out w2 X2.out
        clear s2
        cases T with
        | true =>
          have hP : Hid (PL = L.set j x) := by show _ = _; rw [hF.out, if_pos rfl]
          go_wp2_with (refine storeY kAkA _ rfl 29 (.tmp 45) (.tmp 44) rfl (w.heap.size + 1) g n c1 L j 0 y x _ rfl rfl hget.out (by kernel_rfl) (by exact (by decide : 4 ≤ 4)) rfl O2.out ?_)
          intro w3 o3 u3 z3
          have O3 : Hid (OwnY yAkA (w.heap.size + 1) w3 (.slice (some ⟨g, 0, none⟩) n c1) PL) := by show OwnY _ _ _ _ _; rw [hP.out]; exact o3
          have X3 := hide (X2.out.trans (u3.below (by have := X2.out.size; rwa [hwz.out] at this) (fun k e => by subst e; exact hgB)))
          clear o3 u3
          go_wp2
          go_ret
          exact ⟨_, rfl, O3.out.low (by omega), (B0.out.trans (X3.out.mono (by omega)))⟩
        | false =>
          have O3 : Hid (OwnY yAkA (w.heap.size + 1) w2 (.slice (some ⟨g, 0, none⟩) n c1) PL) := by show OwnY _ _ _ _ _; rw [hF.out, if_neg (by simp)]; exact O2.out
          go_wp2
          go_ret
          exact ⟨_, rfl, O3.out.low (by omega), (B0.out.trans (X2.out.mono (by omega)))⟩
      · have heb : (y.n == x.n) = false := by simp [he]
        have hN := hide (hnext.out he)
        clear hfound hnext
        go_wp2
        go_round
        case rel => exact ⟨j + 1, d + 1, by go_num, by omega, rfl, hN, rfl⟩
        case measure => first | (simp [intOf]; done) | (simp [intOf]; omega)
    · obtain rfl : j = n := by omega
      have hnew : Hid (PL = Ak.ins L x) := by show _ = _; rw [HPL.out]; exact put_newK (by rw [HN.out]; exact hno.out)
      clear hno HPL
      go_wp2
      have X0 : Hid (Below (w.heap.size + 1) w0 (w0.drewN d)) := belNN (Below.refl _ _) d
      generalize w0.drewN d = wd at *
      go_loopw [8, 7, 5] (fun i s v wr => ∃ (i2 : Nat) (b : Bool) (v5 : Value), i = .int .i64 (i2 : Int) ∧ i2 ≤ j ∧ s = .bool b ∧ v = v5 ∧ Hid (InsL L x b i2) ∧ Hid (OwnY yAkA (w.heap.size + 1) wr v5 (insK L x b i2)) ∧ Hid (Below (w.heap.size + 1) w0 wr)) (fun i _ _ _ => j - (intOf i).toNat)
      case atStart => exact ⟨0, false, _, rfl, Nat.zero_le _, rfl, rfl, (show InsL L x false 0 from fun i z h => absurd h (Nat.not_lt_zero _)), (show OwnY yAkA (w.heap.size + 1) wd (.slice none 0 0) (insK L x false 0) from OwnY.nil _ _ _), X0⟩
      case round =>
        obtain ⟨i2, b, v5, rfl, hi2, rfl, hv5, hI, hO, hX⟩ := hrel
        have hv5 := hv5.symm
        subst hv5
        have hlen : Hid ((insK L x b i2).length ≤ i2 + 1) := insK_len L x b i2 j HN.out hi2 hI.out
        have zr1 : w.heap.size + 1 ≤ wr.heap.size := by have := hX.out.size; rwa [hwz.out] at this
        have hbig1 := HB1.out i2 hi2
        have hbig2 := HB2.out i2 hi2
        by_cases hlt2 : i2 < j
        · have hjl : i2 < L.length := by rw [HN.out]; exact hlt2
          have hg : L[i2]? = some L[i2] := List.getElem?_eq_getElem hjl
          obtain ⟨q, o, ea, hq, _⟩ := (H.out.later (B0.out.trans (hX.out.mono (by omega)))).AkA hg
          have KY : Hid (∀ v, Below (w.heap.size + 1) w0 v → v.cell? ⟨q, o + i2 * 4, none⟩ = some (.int .i64 L[i2].n) ∧ v.cell? ⟨q, o + i2 * 4 + 1, none⟩ = some (.int .u64 L[i2].h) ∧ v.cell? ⟨q, o + i2 * 4 + 2, none⟩ = some (.int .u64 L[i2].l) ∧ v.cell? ⟨q, o + i2 * 4 + 3, none⟩ = some (.int .i64 L[i2].p)) := fun v hv => by
            obtain ⟨q', o', ea', _, y0, y1, y2, y3⟩ := (H.out.later (B0.out.trans (hv.mono (by omega)))).AkA hg
            rw [ea] at ea'
            cases ea'
            exact ⟨y0, y1, y2, y3⟩
          cases ea
          have hget : Hid (L[i2]? = some L[i2]) := hg
          clear hg
          generalize L[i2] = y at *
          cases b with
          | true =>
            have I2 := hide (InsL_on hI.out)
            have hstep := hide (insK_on hI.out hget.out)
            generalize insK L x true i2 = LJ at *
            go_wp2_with fail
            refine region_q9 (C := fun v => Below wr.heap.size wr v) (by kernel_rfl) (by kernel_rfl) (Below.refl _ _).drew ?_
            refine wqv (u := .bool true) (by kernel_rfl) (fun v hv => by kernel_rfl) ?_
            simp only [Act.put, List.setIfInBounds_toArray, List.set_cons_zero, List.set_cons_succ]
            refine wqv (u := .bool false) (by kernel_rfl) (fun v hv => by kernel_rfl) ?_
            simp only [Act.put, List.setIfInBounds_toArray, List.set_cons_zero, List.set_cons_succ]
            refine wqv (u := .bool false) (by kernel_rfl) (fun v hv => by kernel_rfl) ?_
            simp only [Act.put, List.setIfInBounds_toArray, List.set_cons_zero, List.set_cons_succ]
            refine wqskip (by kernel_rfl) ?_
            simp only [Act.put, List.setIfInBounds_toArray, List.set_cons_zero, List.set_cons_succ]
            refine wqskip (by kernel_rfl) ?_
            simp only [Act.put, List.setIfInBounds_toArray, List.set_cons_zero, List.set_cons_succ]
            refine wqskip (by kernel_rfl) ?_
            simp only [Act.put, List.setIfInBounds_toArray, List.set_cons_zero, List.set_cons_succ]
            refine wqskip (by kernel_rfl) ?_
            simp only [Act.put, List.setIfInBounds_toArray, List.set_cons_zero, List.set_cons_succ]
            refine wqskip (by kernel_rfl) ?_
            simp only [Act.put, List.setIfInBounds_toArray, List.set_cons_zero, List.set_cons_succ]
            refine wqskip (by kernel_rfl) ?_
            simp only [Act.put, List.setIfInBounds_toArray, List.set_cons_zero, List.set_cons_succ]
            refine wqskip (by kernel_rfl) ?_
            simp only [Act.put, List.setIfInBounds_toArray, List.set_cons_zero, List.set_cons_succ]
            refine wqskip (by kernel_rfl) ?_
            simp only [Act.put, List.setIfInBounds_toArray, List.set_cons_zero, List.set_cons_succ]
            refine wqv (u := .bool false) (by kernel_rfl) (fun v hv => by kernel_rfl) ?_
            simp only [Act.put, List.setIfInBounds_toArray, List.set_cons_zero, List.set_cons_succ]
            refine wqnil (fun v hv => ?_)
            have X2 := hide (hX.out.trans (hv.mono zr1))
            have O2 := hide (hO.out.grow hv)
            clear hv
            obtain ⟨y0, y1, y2, y3⟩ := KY.out v X2.out
            have SB : Hid (SlY yAkA (v.alloc (.cells #[.int .i64 y.n, .int .u64 y.h, .int .u64 y.l, .int .i64 y.p] 29)) (some ⟨v.heap.size, 0, none⟩) 1 1 [y]) := sl_box (Y := yAkA) v y 29
            have DA := hide (X2.out.alloc (by have := X2.out.size; rwa [hwz.out] at this) (.cells #[.int .i64 y.n, .int .u64 y.h, .int .u64 y.l, .int .i64 y.p] 29))
            have OA := hide (O2.out.alloc (.cells #[.int .i64 y.n, .int .u64 y.h, .int .u64 y.l, .int .i64 y.p] 29))
            have za : w.heap.size + 1 ≤ (v.alloc (.cells #[.int .i64 y.n, .int .u64 y.h, .int .u64 y.l, .int .i64 y.p] 29)).heap.size := by have := DA.out.size; rwa [hwz.out] at this
            have hlx : (LJ).length ≤ i2 + 2 := Nat.le_succ_of_le hlen.out
            have hma : Hid ((LJ).length + 1 ≤ maxLen) := Nat.le_trans (Nat.add_le_add_right hlx 1) hbig1
            have hmb : Hid (((LJ).length + 1) * yAkA.by_ ≤ 140737488355328) := by show ((LJ).length + 1) * 32 ≤ 140737488355328; exact Nat.le_trans (Nat.mul_le_mul_right 32 (Nat.add_le_add_right hlx 1)) hbig2
            clear hlx
            go_upto_region 17 with fail
            go_wp2_with (at_builtin; go_must (refine appY kAkA _ rfl (.tmp 69) (.tmp 74) rfl (w.heap.size + 1) (LJ) _ rfl (some ⟨v.heap.size, 0, none⟩) 1 1 rfl [y] SB.out OA.out za hma.out hmb.out ?_))
            intro v6 w6 oo gg ee
            have X6 := hide (OA.out.grown DA.out gg za)
            have O6 := hide oo
            clear oo gg ee SB DA OA za hma hmb
            try dsimp only
            rw [hstep.out] at O6
            go_wp2
            go_round
            case rel => exact ⟨i2 + 1, true, v6, by go_num, by omega, rfl, rfl, I2, O6, X6⟩
            case measure => first | (simp [intOf]; done) | (simp [intOf]; omega)
          | false =>
            have s0 : wr.drew.cell? ⟨q, o + i2 * 4, none⟩ = some (.int .i64 y.n) ∧ wr.drew.cell? ⟨w.heap.size, 0, none⟩ = some (.int .i64 x.n) := ⟨(KY.out _ hX.out.drew).1, (KX.out _ hX.out.drew).1⟩
            go_wp2_with fail
            go_region_held3 (fun v => v.cell? ⟨q, o + i2 * 4, none⟩ = some (.int .i64 y.n) ∧ v.cell? ⟨w.heap.size, 0, none⟩ = some (.int .i64 x.n)) (with_reducible assumption) (fail)
            have X2 := hide hX.out.drew
            have O2 := hide hO.out.drew
            clear s0
            generalize wr.drew = w2 at *
            obtain ⟨y0, y1, y2, y3⟩ := KY.out w2 X2.out
            obtain ⟨x0, x1, x2, x3⟩ := KX.out w2 X2.out
            by_cases hc : x.n < y.n
            · have I2 := hide (InsL_turn hI.out hget.out hc)
              have hstep := hide (insK_turn hI.out hget.out hc)
              generalize insK L x false i2 = LJ at *
              have SB : Hid (SlY yAkA (w2.alloc (.cells #[.int .i64 x.n, .int .u64 x.h, .int .u64 x.l, .int .i64 x.p] 29)) (some ⟨w2.heap.size, 0, none⟩) 1 1 [x]) := sl_box (Y := yAkA) w2 x 29
              have DA := hide (X2.out.alloc (by have := X2.out.size; rwa [hwz.out] at this) (.cells #[.int .i64 x.n, .int .u64 x.h, .int .u64 x.l, .int .i64 x.p] 29))
              have OA := hide (O2.out.alloc (.cells #[.int .i64 x.n, .int .u64 x.h, .int .u64 x.l, .int .i64 x.p] 29))
              have za : w.heap.size + 1 ≤ (w2.alloc (.cells #[.int .i64 x.n, .int .u64 x.h, .int .u64 x.l, .int .i64 x.p] 29)).heap.size := by have := DA.out.size; rwa [hwz.out] at this
              have hlx : (LJ).length ≤ i2 + 2 := Nat.le_succ_of_le hlen.out
              have hma : Hid ((LJ).length + 1 ≤ maxLen) := Nat.le_trans (Nat.add_le_add_right hlx 1) hbig1
              have hmb : Hid (((LJ).length + 1) * yAkA.by_ ≤ 140737488355328) := by show ((LJ).length + 1) * 32 ≤ 140737488355328; exact Nat.le_trans (Nat.mul_le_mul_right 32 (Nat.add_le_add_right hlx 1)) hbig2
              clear hlx
              go_upto_region 15 with fail
              go_wp2_with (at_builtin; go_must (refine appY kAkA _ rfl (.tmp 65) (.tmp 67) rfl (w.heap.size + 1) (LJ) _ rfl (some ⟨w2.heap.size, 0, none⟩) 1 1 rfl [x] SB.out OA.out za hma.out hmb.out ?_))
              intro v6 w6 oo gg ee
              have X6 := hide (OA.out.grown DA.out gg za)
              have O6 := hide oo
              clear oo gg ee SB DA OA za hma hmb
              try dsimp only
              clear y0 y1 y2 y3 x0 x1 x2 x3
              obtain ⟨y0, y1, y2, y3⟩ := KY.out w6 X6.out
              have SB : Hid (SlY yAkA (w6.alloc (.cells #[.int .i64 y.n, .int .u64 y.h, .int .u64 y.l, .int .i64 y.p] 29)) (some ⟨w6.heap.size, 0, none⟩) 1 1 [y]) := sl_box (Y := yAkA) w6 y 29
              have DA := hide (X6.out.alloc (by have := X6.out.size; rwa [hwz.out] at this) (.cells #[.int .i64 y.n, .int .u64 y.h, .int .u64 y.l, .int .i64 y.p] 29))
              have OA := hide (O6.out.alloc (.cells #[.int .i64 y.n, .int .u64 y.h, .int .u64 y.l, .int .i64 y.p] 29))
              have za : w.heap.size + 1 ≤ (w6.alloc (.cells #[.int .i64 y.n, .int .u64 y.h, .int .u64 y.l, .int .i64 y.p] 29)).heap.size := by have := DA.out.size; rwa [hwz.out] at this
              have hlx : (LJ ++ [x]).length ≤ i2 + 2 := by rw [List.length_append]; exact Nat.add_le_add_right hlen.out 1
              have hma : Hid ((LJ ++ [x]).length + 1 ≤ maxLen) := Nat.le_trans (Nat.add_le_add_right hlx 1) hbig1
              have hmb : Hid (((LJ ++ [x]).length + 1) * yAkA.by_ ≤ 140737488355328) := by show ((LJ ++ [x]).length + 1) * 32 ≤ 140737488355328; exact Nat.le_trans (Nat.mul_le_mul_right 32 (Nat.add_le_add_right hlx 1)) hbig2
              clear hlx
              go_upto_region 17 with fail
              go_wp2_with (at_builtin; go_must (refine appY kAkA _ rfl (.tmp 69) (.tmp 74) rfl (w.heap.size + 1) (LJ ++ [x]) _ rfl (some ⟨w6.heap.size, 0, none⟩) 1 1 rfl [y] SB.out OA.out za hma.out hmb.out ?_))
              intro v7 w7 oo gg ee
              have X7 := hide (OA.out.grown DA.out gg za)
              have O7 := hide oo
              clear oo gg ee SB DA OA za hma hmb
              try dsimp only
              have O8 : Hid (OwnY yAkA (w.heap.size + 1) w7 v7 (insK L x true (i2 + 1))) := by show OwnY _ _ _ _ _; rw [← hstep.out, List.append_assoc]; exact O7.out
              go_wp2
              go_round
              case rel => exact ⟨i2 + 1, true, v7, by go_num, by omega, rfl, rfl, I2, O8, X7⟩
              case measure => first | (simp [intOf]; done) | (simp [intOf]; omega)
            · have I2 := hide (InsL_same hI.out hget.out hc)
              have hstep := hide (insK_same (x := x) hget.out)
              generalize insK L x false i2 = LJ at *
              have SB : Hid (SlY yAkA (w2.alloc (.cells #[.int .i64 y.n, .int .u64 y.h, .int .u64 y.l, .int .i64 y.p] 29)) (some ⟨w2.heap.size, 0, none⟩) 1 1 [y]) := sl_box (Y := yAkA) w2 y 29
              have DA := hide (X2.out.alloc (by have := X2.out.size; rwa [hwz.out] at this) (.cells #[.int .i64 y.n, .int .u64 y.h, .int .u64 y.l, .int .i64 y.p] 29))
              have OA := hide (O2.out.alloc (.cells #[.int .i64 y.n, .int .u64 y.h, .int .u64 y.l, .int .i64 y.p] 29))
              have za : w.heap.size + 1 ≤ (w2.alloc (.cells #[.int .i64 y.n, .int .u64 y.h, .int .u64 y.l, .int .i64 y.p] 29)).heap.size := by have := DA.out.size; rwa [hwz.out] at this
              have hlx : (LJ).length ≤ i2 + 2 := Nat.le_succ_of_le hlen.out
              have hma : Hid ((LJ).length + 1 ≤ maxLen) := Nat.le_trans (Nat.add_le_add_right hlx 1) hbig1
              have hmb : Hid (((LJ).length + 1) * yAkA.by_ ≤ 140737488355328) := by show ((LJ).length + 1) * 32 ≤ 140737488355328; exact Nat.le_trans (Nat.mul_le_mul_right 32 (Nat.add_le_add_right hlx 1)) hbig2
              clear hlx
              go_upto_region 17 with fail
              go_wp2_with (at_builtin; go_must (refine appY kAkA _ rfl (.tmp 69) (.tmp 74) rfl (w.heap.size + 1) (LJ) _ rfl (some ⟨w2.heap.size, 0, none⟩) 1 1 rfl [y] SB.out OA.out za hma.out hmb.out ?_))
              intro v6 w6 oo gg ee
              have X6 := hide (OA.out.grown DA.out gg za)
              have O6 := hide oo
              clear oo gg ee SB DA OA za hma hmb
              try dsimp only
              rw [hstep.out] at O6
              go_wp2
              go_round
              case rel => exact ⟨i2 + 1, false, v6, by go_num, by omega, rfl, rfl, I2, O6, X6⟩
              case measure => first | (simp [intOf]; done) | (simp [intOf]; omega)
        · obtain rfl : i2 = j := by omega
          cases b with
          | true =>
            have O9 : Hid (OwnY yAkA (w.heap.size + 1) wr v5 PL) := by show OwnY _ _ _ _ _; rw [hnew.out, ← insK_end, HN.out]; exact hO.out
            go_wp2
            go_ret
            exact ⟨_, rfl, O9.out.low (by omega), (B0.out.trans (hX.out.mono (by omega)))⟩
          | false =>
            have hend : Hid (insK L x false i2 ++ [x] = PL) := by show _ = _; rw [hnew.out, ← insK_none (by rw [HN.out]; exact hI.out), HN.out]
            generalize insK L x false i2 = LJ at *
            obtain ⟨x0, x1, x2, x3⟩ := KX.out wr hX.out
            have SB : Hid (SlY yAkA (wr.alloc (.cells #[.int .i64 x.n, .int .u64 x.h, .int .u64 x.l, .int .i64 x.p] 29)) (some ⟨wr.heap.size, 0, none⟩) 1 1 [x]) := sl_box (Y := yAkA) wr x 29
            have DA := hide (hX.out.alloc (by have := hX.out.size; rwa [hwz.out] at this) (.cells #[.int .i64 x.n, .int .u64 x.h, .int .u64 x.l, .int .i64 x.p] 29))
            have OA := hide (hO.out.alloc (.cells #[.int .i64 x.n, .int .u64 x.h, .int .u64 x.l, .int .i64 x.p] 29))
            have za : w.heap.size + 1 ≤ (wr.alloc (.cells #[.int .i64 x.n, .int .u64 x.h, .int .u64 x.l, .int .i64 x.p] 29)).heap.size := by have := DA.out.size; rwa [hwz.out] at this
            have hlx : (LJ).length ≤ i2 + 2 := Nat.le_succ_of_le hlen.out
            have hma : Hid ((LJ).length + 1 ≤ maxLen) := Nat.le_trans (Nat.add_le_add_right hlx 1) hbig1
            have hmb : Hid (((LJ).length + 1) * yAkA.by_ ≤ 140737488355328) := by show ((LJ).length + 1) * 32 ≤ 140737488355328; exact Nat.le_trans (Nat.mul_le_mul_right 32 (Nat.add_le_add_right hlx 1)) hbig2
            clear hlx
            go_upto_region 19 with fail
            go_wp2_with (at_builtin; go_must (refine appY kAkA _ rfl (.tmp 78) (.tmp 80) rfl (w.heap.size + 1) (LJ) _ rfl (some ⟨wr.heap.size, 0, none⟩) 1 1 rfl [x] SB.out OA.out za hma.out hmb.out ?_))
            intro v6 w6 oo gg ee
            have X6 := hide (OA.out.grown DA.out gg za)
            have O6 := hide oo
            clear oo gg ee SB DA OA za hma hmb
            try dsimp only
            rw [hend.out] at O6
            go_wp2
            go_ret
            exact ⟨_, rfl, O6.out.low (by omega), (B0.out.trans (X6.out.mono (by omega)))⟩

end Go.Proofs.YtipkflaamncmbaaGreat

namespace Go.Proofs.YtipkflaamncmbaaGreat
open Go.RowKit Go.Maps
set_option linter.unusedVariables false
set_option linter.unusedSimpArgs false

set_option maxRecDepth 100000 in
set_option maxHeartbeats 4000000 in
theorem acks_walk (c : Cg) (self : Int) (L : List Ak) (a : Option Addr) (n k : Nat) (x : Ak) (D : List (Int × Int)) (av : Option Addr) (vn vc : Nat) (w : World) (h : SlY yAkA w a n k L) (hD : SlY yD w av vn vc D) (hm : n * 32 ≤ 140737488351232) (hmv : vn * 16 ≤ 140737488351232) :
    Calls Tryz.prog 3 #[.agg #[.int .i64 c.F, .int .i64 c.R, .int .i64 c.P, .bool c.u], .int .i64 self, .slice a n k, .agg #[.int .i64 x.n, .int .u64 x.h, .int .u64 x.l, .int .i64 x.p], .slice av vn vc] w fun e w' => e = .returned (.bool true) ∧ Below w.heap.size w w' := by
  have H := hide h
  have HD := hide hD
  have HN := hide h.len
  clear h hD
  have B0 : Hid (Below w.heap.size w (((w.alloc (.cells #[.int .i64 c.F, .int .i64 c.R, .int .i64 c.P, .bool c.u] 23)).alloc (.cells #[.int .i64 x.n, .int .u64 x.h, .int .u64 x.l, .int .i64 x.p] 29)).alloc (.cells #[.slice none 0 0, .slice none 0 0, .slice none 0 0, .slice none 0 0, .slice none 0 0, .slice none 0 0, .slice none 0 0, .slice none 0 0, .slice none 0 0, .slice none 0 0] 38))) := (((Below.refl _ w).alloc (Nat.le_refl _) _).alloc (by simp) _).alloc (by simp; omega) _
  have hwz : Hid ((((w.alloc (.cells #[.int .i64 c.F, .int .i64 c.R, .int .i64 c.P, .bool c.u] 23)).alloc (.cells #[.int .i64 x.n, .int .u64 x.h, .int .u64 x.l, .int .i64 x.p] 29)).alloc (.cells #[.slice none 0 0, .slice none 0 0, .slice none 0 0, .slice none 0 0, .slice none 0 0, .slice none 0 0, .slice none 0 0, .slice none 0 0, .slice none 0 0, .slice none 0 0] 38)).heap.size = w.heap.size + 3) := by show _ = _; simp
  have G0 : Hid (GM (((w.alloc (.cells #[.int .i64 c.F, .int .i64 c.R, .int .i64 c.P, .bool c.u] 23)).alloc (.cells #[.int .i64 x.n, .int .u64 x.h, .int .u64 x.l, .int .i64 x.p] 29)).alloc (.cells #[.slice none 0 0, .slice none 0 0, .slice none 0 0, .slice none 0 0, .slice none 0 0, .slice none 0 0, .slice none 0 0, .slice none 0 0, .slice none 0 0, .slice none 0 0] 38)) (w.heap.size + 2) (w.heap.size + 3) (.slice none 0 0) (.slice none 0 0) (.slice none 0 0) (.slice none 0 0) [] [] [] []) := by
    have := GM.new ((w.alloc (.cells #[.int .i64 c.F, .int .i64 c.R, .int .i64 c.P, .bool c.u] 23)).alloc (.cells #[.int .i64 x.n, .int .u64 x.h, .int .u64 x.l, .int .i64 x.p] 29)) 38
    rw [show ((w.alloc (.cells #[.int .i64 c.F, .int .i64 c.R, .int .i64 c.P, .bool c.u] 23)).alloc (.cells #[.int .i64 x.n, .int .u64 x.h, .int .u64 x.l, .int .i64 x.p] 29)).heap.size = w.heap.size + 2 from by simp] at this
    exact this
  have cl := hide (lentacks_any L a n k (((w.alloc (.cells #[.int .i64 c.F, .int .i64 c.R, .int .i64 c.P, .bool c.u] 23)).alloc (.cells #[.int .i64 x.n, .int .u64 x.h, .int .u64 x.l, .int .i64 x.p] 29)).alloc (.cells #[.slice none 0 0, .slice none 0 0, .slice none 0 0, .slice none 0 0, .slice none 0 0, .slice none 0 0, .slice none 0 0, .slice none 0 0, .slice none 0 0, .slice none 0 0] 38)) (H.out.later B0.out) (by omega))
  rw [hwz.out] at cl
  go_enter Tryz.func3, Tryz.ntmps3
  go_wp2_with fail
  refine cl.out.mono ?_
  rintro e w1 ⟨g, ck, rfl, hck, hgB, s1, t1, b1⟩
  have D1 := hide b1
  have S1 := hide s1
  have T1 := hide t1
  have z1 : w.heap.size + 3 ≤ w1.heap.size := by have := b1.size; rwa [hwz.out] at this
  have G1 : Hid (GM w1 (w.heap.size + 2) (w.heap.size + 3) (.slice none 0 0) (.slice none 0 0) (.slice none 0 0) (.slice none 0 0) [] [] [] []) := G0.out.bel (by rw [hwz.out]; exact b1)
  have E1 := hide (B0.out.trans (b1.mono (by omega)))
  clear b1 s1 t1 cl
  have cg := hide (given_vecM (w.heap.size + 2) (w.heap.size + 3) _ _ _ _ [] [] [] [] av vn vc D w1 G1.out (HD.out.later E1.out) hmv (by decide) rfl)
  dsimp only
  go_wp2_with fail
  refine cg.out.mono ?_
  rintro e w2 ⟨gv, cv, va, vb, g5, k5, rfl, sv, hgv, G2', hu, _, _⟩
  have hnb : ∀ b : Nat, b ≠ w.heap.size + 2 → ¬ (b = w.heap.size + 2 ∨ (Value.slice none 0 0).ownBlock = some b ∨ (Value.slice none 0 0).ownBlock = some b) := fun b hb hc => by
    rcases hc with hc | hc | hc
    · exact hb hc
    · cases hc
    · cases hc
  have z2 := hu.size
  have S2 := hide (S1.out.upd hu (fun z e _ => by cases e; exact hnb g (by omega)))
  have T2 := hide (T1.out.upd hu (fun z e _ => by cases e; exact hnb g (by omega)))
  have V2 := hide sv
  have G2 := hide G2'
  have E2 : Hid (Below w.heap.size w w2) := E1.out.trans (hu.below (by omega) (fun b hb => by
    rcases hb with hb | hb | hb
    · omega
    · cases hb
    · cases hb))
  have KC : Hid (∀ v, Below w2.heap.size w2 v → (v.cell? ⟨w.heap.size, 0, none⟩ = some (.int .i64 c.F) ∧ v.cell? ⟨w.heap.size, 1, none⟩ = some (.int .i64 c.R) ∧ v.cell? ⟨w.heap.size, 2, none⟩ = some (.int .i64 c.P) ∧ v.cell? ⟨w.heap.size, 3, none⟩ = some (.bool c.u)) ∧ (v.cell? ⟨w.heap.size + 1, 0, none⟩ = some (.int .i64 x.n) ∧ v.cell? ⟨w.heap.size + 1, 1, none⟩ = some (.int .u64 x.h) ∧ v.cell? ⟨w.heap.size + 1, 2, none⟩ = some (.int .u64 x.l) ∧ v.cell? ⟨w.heap.size + 1, 3, none⟩ = some (.int .i64 x.p))) := fun v hv =>
    ⟨⟨(hv.cell (p := ⟨w.heap.size, 0, none⟩) (by show w.heap.size < w2.heap.size; omega)).trans ((hu.cell (p := ⟨w.heap.size, 0, none⟩) (by show w.heap.size < w1.heap.size; omega) (hnb (w.heap.size) (by omega))).trans ((D1.out.cell (p := ⟨w.heap.size, 0, none⟩) (by show w.heap.size < w.heap.size + 3; omega)).trans (by go_simp))), (hv.cell (p := ⟨w.heap.size, 1, none⟩) (by show w.heap.size < w2.heap.size; omega)).trans ((hu.cell (p := ⟨w.heap.size, 1, none⟩) (by show w.heap.size < w1.heap.size; omega) (hnb (w.heap.size) (by omega))).trans ((D1.out.cell (p := ⟨w.heap.size, 1, none⟩) (by show w.heap.size < w.heap.size + 3; omega)).trans (by go_simp))), (hv.cell (p := ⟨w.heap.size, 2, none⟩) (by show w.heap.size < w2.heap.size; omega)).trans ((hu.cell (p := ⟨w.heap.size, 2, none⟩) (by show w.heap.size < w1.heap.size; omega) (hnb (w.heap.size) (by omega))).trans ((D1.out.cell (p := ⟨w.heap.size, 2, none⟩) (by show w.heap.size < w.heap.size + 3; omega)).trans (by go_simp))), (hv.cell (p := ⟨w.heap.size, 3, none⟩) (by show w.heap.size < w2.heap.size; omega)).trans ((hu.cell (p := ⟨w.heap.size, 3, none⟩) (by show w.heap.size < w1.heap.size; omega) (hnb (w.heap.size) (by omega))).trans ((D1.out.cell (p := ⟨w.heap.size, 3, none⟩) (by show w.heap.size < w.heap.size + 3; omega)).trans (by go_simp)))⟩, ⟨(hv.cell (p := ⟨w.heap.size + 1, 0, none⟩) (by show w.heap.size + 1 < w2.heap.size; omega)).trans ((hu.cell (p := ⟨w.heap.size + 1, 0, none⟩) (by show w.heap.size + 1 < w1.heap.size; omega) (hnb (w.heap.size + 1) (by omega))).trans ((D1.out.cell (p := ⟨w.heap.size + 1, 0, none⟩) (by show w.heap.size + 1 < w.heap.size + 3; omega)).trans (by go_simp))), (hv.cell (p := ⟨w.heap.size + 1, 1, none⟩) (by show w.heap.size + 1 < w2.heap.size; omega)).trans ((hu.cell (p := ⟨w.heap.size + 1, 1, none⟩) (by show w.heap.size + 1 < w1.heap.size; omega) (hnb (w.heap.size + 1) (by omega))).trans ((D1.out.cell (p := ⟨w.heap.size + 1, 1, none⟩) (by show w.heap.size + 1 < w.heap.size + 3; omega)).trans (by go_simp))), (hv.cell (p := ⟨w.heap.size + 1, 2, none⟩) (by show w.heap.size + 1 < w2.heap.size; omega)).trans ((hu.cell (p := ⟨w.heap.size + 1, 2, none⟩) (by show w.heap.size + 1 < w1.heap.size; omega) (hnb (w.heap.size + 1) (by omega))).trans ((D1.out.cell (p := ⟨w.heap.size + 1, 2, none⟩) (by show w.heap.size + 1 < w.heap.size + 3; omega)).trans (by go_simp))), (hv.cell (p := ⟨w.heap.size + 1, 3, none⟩) (by show w.heap.size + 1 < w2.heap.size; omega)).trans ((hu.cell (p := ⟨w.heap.size + 1, 3, none⟩) (by show w.heap.size + 1 < w1.heap.size; omega) (hnb (w.heap.size + 1) (by omega))).trans ((D1.out.cell (p := ⟨w.heap.size + 1, 3, none⟩) (by show w.heap.size + 1 < w.heap.size + 3; omega)).trans (by go_simp)))⟩⟩
  clear sv hgv G2' hu hnb cg G0 G1 S1 T1
  have HL2 := hide (H.out.later E2.out)
  have HD2 := hide (HD.out.later E2.out)
  have c1 := hide (fun W (hW : Below w2.heap.size w2 W) => Ak.Check_any c self L (some ⟨g, 0, none⟩) n ck W (S2.out.later hW) (by omega))
  unfold Cg.val at c1
  have c2 := hide (fun W (hW : Below w2.heap.size w2 W) => refcheckacks_any c self L a n k W (HL2.out.later hW))
  generalize Ak.ck c self L = CK at *
  have c3 := hide (fun W (hW : Below w2.heap.size w2 W) => Ak.Put_any L x (some ⟨g, 0, none⟩) n ck W (S2.out.later hW) (by omega))
  unfold Ak.val at c3
  have c4 := hide (fun W (hW : Below w2.heap.size w2 W) => refputack_any L x a n k W (HL2.out.later hW) (by omega))
  generalize Ak.put L x = PL at *
  have c6 := hide (fun W (hW : Below w2.heap.size w2 W) => Ak.Prune_any L D (some ⟨g, 0, none⟩) (some ⟨gv, 0, none⟩) n ck vn cv W (S2.out.later hW) (V2.out.later hW) (by omega))
  have c7 := hide (fun W (hW : Below w2.heap.size w2 W) => refpruneacks_any L D a av n k vn vc W (HL2.out.later hW) (HD2.out.later hW) (by omega))
  generalize Ak.prn L D = RL at *
  have s0 := KC.out _ (Below.refl w2.heap.size w2).drew
  have D0 : Hid (Below w2.heap.size w2 w2.drew) := (Below.refl _ _).drew
  dsimp only
  go_wp2_with fail
  go_region_held3 (fun v => (v.cell? ⟨w.heap.size, 0, none⟩ = some (.int .i64 c.F) ∧ v.cell? ⟨w.heap.size, 1, none⟩ = some (.int .i64 c.R) ∧ v.cell? ⟨w.heap.size, 2, none⟩ = some (.int .i64 c.P) ∧ v.cell? ⟨w.heap.size, 3, none⟩ = some (.bool c.u)) ∧ (v.cell? ⟨w.heap.size + 1, 0, none⟩ = some (.int .i64 x.n) ∧ v.cell? ⟨w.heap.size + 1, 1, none⟩ = some (.int .u64 x.h) ∧ v.cell? ⟨w.heap.size + 1, 2, none⟩ = some (.int .u64 x.l) ∧ v.cell? ⟨w.heap.size + 1, 3, none⟩ = some (.int .i64 x.p))) (with_reducible assumption) (first
    | (have := P8; go_at_call 10; refine (sameacks8_any RL a8 a9 _ k8 k9 _ P8.out s9).mono ?_; rintro e w10 ⟨rfl, kk, rfl⟩; have D10 := hide (belNN D9.out kk); have t10 := KC.out _ D10.out; clear s9 P8)
    | (have := P7; go_at_call 14; refine (c7.out _ D8.out).mono ?_; rintro e w9 ⟨v9, rfl, o9, b9⟩; obtain ⟨a9, k9, rfl, s9, _⟩ := o9.sl kAkA; have D9 := hide (D8.out.trans (b9.mono D8.out.size)); have P8 := hide (P7.out.later b9); have t9 := KC.out w9 D9.out; clear o9 b9 P7)
    | (have := D7; go_at_call 13; refine (c6.out _ D7.out).mono ?_; rintro e w8 ⟨v8, rfl, o8, b8⟩; obtain ⟨a8, k8, rfl, s8, _⟩ := o8.sl kAkA; have D8 := hide (D7.out.trans (b8.mono D7.out.size)); have P7 := hide s8; have t8 := KC.out w8 D8.out; clear o8 b8 s8)
    | (have := P6; go_at_call 10; refine (sameacks8_any PL a5 a6 _ k5' k6 _ P6.out s6).mono ?_; rintro e w7 ⟨rfl, kk7, rfl⟩; have D7 := hide (belNN D6.out kk7); have t7 := KC.out _ D7.out; clear s6 P6)
    | (have := P5; go_at_call 12; refine (c4.out _ D5.out).mono ?_; rintro e w6 ⟨v6, rfl, o6, b6⟩; obtain ⟨a6, k6, rfl, s6, _⟩ := o6.sl kAkA; have D6 := hide (D5.out.trans (b6.mono D5.out.size)); have P6 := hide (P5.out.later b6); have t6 := KC.out w6 D6.out; clear o6 b6 P5)
    | (have := D4; go_at_call 11; refine (c3.out _ D4.out).mono ?_; rintro e w5 ⟨v5, rfl, o5, b5⟩; obtain ⟨a5, k5', rfl, s5, _⟩ := o5.sl kAkA; have D5 := hide (D4.out.trans (b5.mono D4.out.size)); have P5 := hide s5; have t5 := KC.out w5 D5.out; clear o5 b5 s5)
    | (have := D3; go_at_call 9; refine (c2.out _ D3.out).mono ?_; rintro e w4 ⟨rfl, b4⟩; have D4 := hide (D3.out.trans (b4.mono D3.out.size)); have t4 := KC.out w4 D4.out; clear b4)
    | (go_at_call 8; refine (c1.out _ D0.out).mono ?_; rintro e w3 ⟨rfl, b3⟩; have D3 := hide (D0.out.trans (b3.mono D0.out.size)); have t3 := KC.out w3 D3.out; clear b3))
  generalize w9.drewN kk = w11 at *
  have t11 := KC.out _ D10.out.drew
  have D12 := hide D10.out.drew
  clear c1 c2 c3 c4 c6 c7 t10
  have cr1 := hide (fun W (hW : Below w2.heap.size w2 W) => reached_any c.F c.R L (some ⟨g, 0, none⟩) n ck W (S2.out.later hW) (by omega))
  have cr2 := hide (fun W (hW : Below w2.heap.size w2 W) => refreached_any c.F c.R L a n k W (HL2.out.later hW))
  generalize rch c.F c.R L = RC at *
  have ck1 := hide (fun W (hW : Below w2.heap.size w2 W) => keptacks_any L g ck a n k W (S2.out.later hW) (T2.out.later hW) (HL2.out.later hW))
  have ci1 := hide (fun W (hW : Below w2.heap.size w2 W) => intactM_any (w.heap.size + 2) (w.heap.size + 3) _ _ _ _ _ _ _ _ W (G2.out.bel hW) rfl rfl)
  go_wp2_with fail
  go_region_held3 (fun v => (v.cell? ⟨w.heap.size, 0, none⟩ = some (.int .i64 c.F) ∧ v.cell? ⟨w.heap.size, 1, none⟩ = some (.int .i64 c.R) ∧ v.cell? ⟨w.heap.size, 2, none⟩ = some (.int .i64 c.P) ∧ v.cell? ⟨w.heap.size, 3, none⟩ = some (.bool c.u)) ∧ (v.cell? ⟨w.heap.size + 1, 0, none⟩ = some (.int .i64 x.n) ∧ v.cell? ⟨w.heap.size + 1, 1, none⟩ = some (.int .u64 x.h) ∧ v.cell? ⟨w.heap.size + 1, 2, none⟩ = some (.int .u64 x.l) ∧ v.cell? ⟨w.heap.size + 1, 3, none⟩ = some (.int .i64 x.p))) (first | with_reducible assumption | exact t14 | exact t13) (first
    | (go_at_call 15; refine (cr1.out _ D12.out).mono ?_; rintro e wm ⟨rfl, bm⟩; have DM := hide (D12.out.trans (bm.mono D12.out.size)); have tm := KC.out wm DM.out; clear bm)
    | (go_at_call 16; refine (cr2.out _ DM.out).mono ?_; rintro e wm' ⟨rfl, rfl⟩)
    | (go_at_call 17; refine (ck1.out _ DM.out).mono ?_; rintro e w13 ⟨rfl, k13, hw13⟩; have D13 : Hid (Below w2.heap.size w2 w13) := (by show Below _ _ _; rw [hw13]; exact belNN DM.out k13); clear hw13; have t13 := KC.out _ D13.out)
    | (go_at_call 18; refine (ci1.out _ D13.out).mono ?_; rintro e w14 ⟨rfl, k14, hw14⟩; have D14 : Hid (Below w2.heap.size w2 w14) := (by show Below _ _ _; rw [hw14]; exact belNN D13.out k14); clear hw14; have t14 := KC.out _ D14.out)
    | (go_at_call 19; refine (works8_any _).mono ?_; rintro e w15 ⟨rfl, b15⟩; have D15 := hide (D14.out.trans (b15.mono D14.out.size)); have t15 := KC.out w15 D15.out; clear b15))
  go_wp2
  go_ret
  exact ⟨rfl, E2.out.trans (D15.out.mono E2.out.size)⟩

end Go.Proofs.YtipkflaamncmbaaGreat

namespace Go.Proofs.YtipkflaamncmbaaGreat
open Go.ChangeShapes Go.WideShapes Go.ChangeAt Go.RowKit Go.Maps
set_option linter.unusedVariables false
set_option linter.unusedSimpArgs false

theorem cfCells : Tryz.prog.cellsOf 23 = 4 := by kernel_rfl
theorem boolCells9 : Tryz.prog.cellsOf 4 = 1 := by kernel_rfl
theorem drBytes8 : Tryz.prog.bytesOf 27 = 16 := by kernel_rfl
set_option maxRecDepth 100000 in
/-- A configuration by value that came in. -/
theorem open_cfg {H : Type} {enc : TypeId × Value → H} {W : World} {base : Nat} {v : Value} {d : DataW H} {p : List MemPlace} (hv : Value.okWide Tryz.prog W .any base 23 v) (h : DataW.Trod enc Tryz.prog W 0 (fun _ => true) true 23 v d p) :
    ∃ x : Cg, v = .agg #[.int .i64 x.F, .int .i64 x.R, .int .i64 x.P, .bool x.u] ∧ True := by
  obtain ⟨cs, rfl, hsz⟩ := okWide_struct Tryz.underlying23 hv
  obtain ⟨fuel, hf⟩ := h
  obtain ⟨xs, k, hk, hxy, hlen, hxl, hf⟩ := DataW.trod_struct Tryz.underlying23 hf
  rw [cfCells] at hlen
  have hxl : xs.length = 4 := hxl
  simp only [Value.cells] at hlen hf
  obtain ⟨l⟩ := cs
  match xs, hxl, l, hlen with
  | [y0, y1, y2, y3], _, [v0, v1, v2, v3], _ =>
    have g0 := hf 0 _ rfl
    have g1 := hf 1 _ rfl
    have g2 := hf 2 _ rfl
    have g3 := hf 3 _ rfl
    simp [intCells, boolCells9] at g0 g1 g2 g3
    obtain ⟨A, hA, _, _⟩ := DataW.trod_int Tryz.underlying3 g0
    obtain ⟨B, hB, _, _⟩ := DataW.trod_int Tryz.underlying3 g1
    obtain ⟨C, hC, _, _⟩ := DataW.trod_int Tryz.underlying3 g2
    obtain ⟨b, hb, _⟩ := DataW.trod_bool Tryz.underlying4 g3
    refine ⟨⟨A, B, C, b⟩, ?_, trivial⟩
    simp at hA hB hC hb
    subst hA hB hC hb
    rfl
set_option maxRecDepth 100000 in
/-- An acknowledgement by value that came in. -/
theorem open_ack {H : Type} {enc : TypeId × Value → H} {W : World} {base : Nat} {v : Value} {d : DataW H} {p : List MemPlace} (hv : Value.okWide Tryz.prog W .any base 29 v) (h : DataW.Trod enc Tryz.prog W 0 (fun _ => true) true 29 v d p) :
    ∃ x : Ak, v = .agg #[.int .i64 x.n, .int .u64 x.h, .int .u64 x.l, .int .i64 x.p] ∧ True := by
  obtain ⟨cs, rfl, hsz⟩ := okWide_struct Tryz.underlying29 hv
  obtain ⟨fuel, hf⟩ := h
  obtain ⟨o, _, e⟩ := open_akc hf
  refine ⟨o, ?_, trivial⟩
  have e : cs.toList = [.int .i64 o.n, .int .u64 o.h, .int .u64 o.l, .int .i64 o.p] := by simp only [Value.cells] at e; exact e
  have : cs = #[.int .i64 o.n, .int .u64 o.h, .int .u64 o.l, .int .i64 o.p] := by rw [← Array.toList_inj]; exact e
  rw [this]
def CameVD8 (W : World) (a : Option Addr) (len cap : Nat) : Prop := ∃ P : List (Int × Int), SlY yD W a len cap P ∧ len * 16 ≤ 140737488351232
set_option maxRecDepth 100000 in
theorem open_vecD8 {H : Type} {enc : TypeId × Value → H} {W : World} {base : Nat} {v : Value} {d : DataW H} {p : List MemPlace} (hv : Value.okWide Tryz.prog W .any base 31 v) (h : DataW.Trod enc Tryz.prog W 0 (fun _ => true) true 31 v d p)
    (hs : ∀ el sp, d = .slice el sp → (el.length + sp.length) * Tryz.prog.bytesOf 27 ≤ reachBytes) : ∃ a len cap, v = .slice a len cap ∧ CameVD8 W a len cap := by
  obtain ⟨a, n, c, rfl, P, h1, h2, el, sp, e1, _, e3⟩ := open_rowsN kD (fun _ => True) drCells9 (fun h => by
    obtain ⟨x, y, _, e⟩ := open_drc9 h
    exact ⟨(x, y), trivial, e⟩) hv h
  refine ⟨a, n, c, rfl, P, h1, ?_⟩
  rcases e3 with e3 | e3
  · omega
  · have := hs el sp e3
    rw [drBytes8, e1, Nat.add_mul] at this
    simp only [reachBytes] at this
    omega
theorem acks_came (c : Cg) (self : Int) (a : Option Addr) (len cap : Nat) (x : Ak) (av : Option Addr) (vn vc : Nat) (W : World) (h : CameAk W a len cap) (hv : CameVD8 W av vn vc) :
    Calls Tryz.prog 3 #[.agg #[.int .i64 c.F, .int .i64 c.R, .int .i64 c.P, .bool c.u], .int .i64 self, .slice a len cap, .agg #[.int .i64 x.n, .int .u64 x.h, .int .u64 x.l, .int .i64 x.p], .slice av vn vc] W fun e w' => e = .returned (.bool true) ∧ Below W.heap.size W w' := by
  obtain ⟨P, hs, hm⟩ := h
  obtain ⟨D, hD, hmv⟩ := hv
  exact acks_walk c self P a len cap x D av vn vc W hs hD hm hmv

end Go.Proofs.YtipkflaamncmbaaGreat

