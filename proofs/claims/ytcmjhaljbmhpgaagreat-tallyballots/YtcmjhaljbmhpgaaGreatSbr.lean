import Derived.Test.YtcmjhaljbmhpgaaGreatOg
import Derived.Test.YtcmjhaljbmhpgaaGreatSbc
namespace Go.Proofs.YtcmjhaljbmhpgaaGreat
open Go.RowKit Go.Maps
open Classical
set_option linter.unusedVariables false
set_option linter.unusedSimpArgs false

set_option maxRecDepth 100000 in
set_option maxHeartbeats 2000000 in
/-- The document's CheckBallots. -/
theorem refcheckballots_any (c : Cg) (self : Int) (L : List Bl) (a : Option Addr) (n k : Nat) (w : World) (h : SlY yBlA w a n k L) (hlogs : ∀ x ∈ L, x.In w ∧ ∀ e ∈ x.s.D, e.fits) :
    Calls Tryz.prog 23 #[.agg #[.int .i64 c.F, .int .i64 c.R, .int .i64 c.P, .bool c.u], .int .i64 self, .slice a n k] w fun e w' => e = .returned (.int .i64 (Bl.ck c self L)) ∧ Below w.heap.size w w' := by
  have hmx := h.max
  have hcp := h.cap
  have hln := h.len
  unfold maxLen at hmx
  have H := hide h
  have HN := hide hln
  have HLL := hide hlogs
  clear h hln hlogs
  have B0 : Hid (Below w.heap.size w (w.alloc (.cells #[.int .i64 c.F, .int .i64 c.R, .int .i64 c.P, .bool c.u] 23))) := (Below.refl _ w).alloc (Nat.le_refl _) _
  have HCK : Hid (Bl.ck c self L = if c.ok = false then 1 else if Bl.ckl c self 0 L = true then 0 else 80) := rfl
  generalize Bl.ck c self L = CK at *
  go_enter Tryz.func23, Tryz.ntmps23
  go_wp2_with fail
  refine (refconfig_any c _).mono ?_
  rintro e w1 ⟨rfl, b1⟩
  dsimp only
  have hz1 : w.heap.size + 1 ≤ w1.heap.size := by have := b1.size; simpa using this
  have D1 : Hid (Below (w.heap.size + 1) (w.alloc (.cells #[.int .i64 c.F, .int .i64 c.R, .int .i64 c.P, .bool c.u] 23)) w1) := by show Below _ _ _; simpa using b1
  clear b1
  have KC : Hid (∀ v, Below (w.heap.size + 1) w1 v → v.cell? ⟨w.heap.size, 0, none⟩ = some (.int .i64 c.F) ∧ v.cell? ⟨w.heap.size, 1, none⟩ = some (.int .i64 c.R) ∧ v.cell? ⟨w.heap.size, 2, none⟩ = some (.int .i64 c.P) ∧ v.cell? ⟨w.heap.size, 3, none⟩ = some (.bool c.u)) := fun v hv =>
    ⟨((D1.out.trans hv).cell (p := ⟨w.heap.size, 0, none⟩) (by simp)).trans (by simp), ((D1.out.trans hv).cell (p := ⟨w.heap.size, 1, none⟩) (by simp)).trans (by simp), ((D1.out.trans hv).cell (p := ⟨w.heap.size, 2, none⟩) (by simp)).trans (by simp), ((D1.out.trans hv).cell (p := ⟨w.heap.size, 3, none⟩) (by simp)).trans (by simp)⟩
  have E1 := hide (B0.out.trans (D1.out.mono (by omega)))
  by_cases hk : c.ok = true
  · have hF : 1 ≤ c.F ∧ c.F ≤ 3 ∧ 1 ≤ c.R ∧ c.R ≤ 256 := of_decide_eq_true hk
    obtain ⟨hF1, hF3, _, _⟩ := hF
    have HC2 : Hid (CK = if Bl.ckl c self 0 (L.drop 0) = true then 0 else 80) := by show _ = _; rw [HCK.out, hk, if_neg (by simp)]; rfl
    rw [if_pos hk]
    clear HCK hk
    go_wp2
    go_loopw [8, 7] (fun i l wr => ∃ (j : Nat) (l' : Int), i = .int .i64 (j : Int) ∧ j ≤ n ∧ l = .int .i64 (l' - 1) ∧ 0 ≤ l' ∧ Hid (CK = if Bl.ckl c self l' (L.drop j) = true then 0 else 80) ∧ Hid (Below (w.heap.size + 1) w1 wr)) (fun i _ _ => n - (intOf i).toNat)
    case atStart => exact ⟨0, 0, rfl, Nat.zero_le _, rfl, Int.le_refl _, HC2, Below.refl _ _⟩
    case round =>
      obtain ⟨j, l', rfl, hj, rfl, hl0, hCK, hbl⟩ := hrel
      have zr : w.heap.size + 1 ≤ wr.heap.size := by have := hbl.out.size; omega
      by_cases hlt : j < n
      · have hjl : j < L.length := by rw [HN.out]; exact hlt
        have hg : L[j]? = some L[j] := List.getElem?_eq_getElem hjl
        have KL : Hid (∀ v, Below (w.heap.size + 1) w1 v → SlY yBlA v a n k L) := fun v hv => H.out.later (E1.out.trans (hv.mono (by omega)))
        obtain ⟨q, o, ea, hq, _⟩ := (KL.out wr hbl.out).BlA hg
        have hCK1 : Hid (CK = if (if L[j].n < l' ∨ 2 * c.F + 1 ≤ L[j].n ∨ L[j].n = self ∨ Bl.mb L[j] (2 * c.F + 1) c.R = false then false else Bl.ckl c self (L[j].n + 1) (L.drop (j + 1))) = true then 0 else 80) := by
          show _ = _
          rw [hCK.out, List.drop_eq_getElem_cons hjl, Bl.ckl]
        have KS : Hid (∀ v, Below (w.heap.size + 1) w1 v → (v.cell? ⟨q, o + j * 6, none⟩ = some (.int .i64 L[j].n) ∧ v.cell? ⟨q, o + j * 6 + 1, none⟩ = some (.int .u64 L[j].h) ∧ v.cell? ⟨q, o + j * 6 + 2, none⟩ = some (.int .u64 L[j].l) ∧ v.cell? ⟨q, o + j * 6 + 3, none⟩ = some (.int .i64 L[j].v) ∧ v.cell? ⟨q, o + j * 6 + 4, none⟩ = some (.int .i64 L[j].c) ∧ v.cell? ⟨q, o + j * 6 + 5, none⟩ = some (.slice L[j].s.a L[j].s.D.length L[j].s.c)) ∧ v.cell? ⟨w.heap.size, 0, none⟩ = some (.int .i64 c.F) ∧ v.cell? ⟨w.heap.size, 1, none⟩ = some (.int .i64 c.R) ∧ v.cell? ⟨w.heap.size, 2, none⟩ = some (.int .i64 c.P) ∧ v.cell? ⟨w.heap.size, 3, none⟩ = some (.bool c.u)) := fun v hv => by
          obtain ⟨q', o', ea', _, y0, y1, y2, y3, y4, y5⟩ := (KL.out v hv).BlA hg
          rw [ea] at ea'
          cases ea'
          exact ⟨⟨y0, y1, y2, y3, y4, y5⟩, KC.out v hv⟩
        cases ea
        have HX : Hid (L[j].In w ∧ ∀ e ∈ L[j].s.D, e.fits) := HLL.out _ (List.getElem_mem hjl)
        clear hg hCK
        generalize L[j] = x at *
        have cv := hide (fun W => refvoter_any c self (l' - 1) x.n W hF1 hF3)
        have cw := hide (fun W (hW : Below (w.heap.size + 1) w1 W) => refwhole_any c x.v x.s.D x.s.a x.s.D.length x.s.c x.c W (HX.out.1.later (E1.out.trans (hW.mono (by omega)))).1 HX.out.2)
        have HV : Hid (vot c self (l' - 1) x.n = decide (¬ (x.n < l' ∨ 2 * c.F + 1 ≤ x.n ∨ x.n = self))) := by
          show decide _ = decide _
          apply decide_eq_decide.2
          omega
        have KZ : Hid (∀ v, Below (w.heap.size + 1) w1 v → w.heap.size + 1 ≤ v.heap.size) := fun v hv => by have := hv.size; omega
        generalize vot c self (l' - 1) x.n = V at *
        go_wp2_with fail
        by_cases hc : x.n < l' ∨ 2 * c.F + 1 ≤ x.n ∨ x.n = self
        · have hV : V = false := by rw [HV.out]; exact decide_eq_false (fun h => h hc)
          subst hV
          have HC := hide hc
          clear hc
          refine region_q9 (C := fun v => Below (w.heap.size + 1) w1 v) (by kernel_rfl) (by kernel_rfl) hbl.out.drew ?_
          refine wqv (u := .agg #[.int .i64 c.F, .int .i64 c.R, .int .i64 c.P, .bool c.u]) (by kernel_rfl) (fun v hv => by obtain ⟨⟨y0, y1, y2, y3, y4, y5⟩, k0, k1, k2, k3⟩ := KS.out v hv; go_simp) ?_
          simp only [Act.put, List.setIfInBounds_toArray, List.set_cons_zero, List.set_cons_succ]
          refine wqv (u := .int .i64 self) (by kernel_rfl) (fun v hv => by kernel_rfl) ?_
          simp only [Act.put, List.setIfInBounds_toArray, List.set_cons_zero, List.set_cons_succ]
          refine wqv (u := (.int .i64 (l' - 1))) (by kernel_rfl) (fun v hv => by kernel_rfl) ?_
          simp only [Act.put, List.setIfInBounds_toArray, List.set_cons_zero, List.set_cons_succ]
          refine wqv (u := .slice (some ⟨q, o, none⟩) n k) (by kernel_rfl) (fun v hv => by kernel_rfl) ?_
          simp only [Act.put, List.setIfInBounds_toArray, List.set_cons_zero, List.set_cons_succ]
          refine wqv (u := .int .i64 (j : Int)) (by kernel_rfl) (fun v hv => by kernel_rfl) ?_
          simp only [Act.put, List.setIfInBounds_toArray, List.set_cons_zero, List.set_cons_succ]
          refine wqv (u := .pointer (some ⟨q, o + j * 6, none⟩)) (by kernel_rfl) (fun v hv => by go_simp) ?_
          simp only [Act.put, List.setIfInBounds_toArray, List.set_cons_zero, List.set_cons_succ]
          refine wqv (u := .pointer (some ⟨q, o + j * 6, none⟩)) (by kernel_rfl) (fun v hv => by go_simp) ?_
          simp only [Act.put, List.setIfInBounds_toArray, List.set_cons_zero, List.set_cons_succ]
          refine wqv (u := .int .i64 x.n) (by kernel_rfl) (fun v hv => by obtain ⟨⟨y0, y1, y2, y3, y4, y5⟩, k0, k1, k2, k3⟩ := KS.out v hv; go_simp) ?_
          simp only [Act.put, List.setIfInBounds_toArray, List.set_cons_zero, List.set_cons_succ]
          refine wqc (fid := 48) (args := #[.agg #[.int .i64 c.F, .int .i64 c.R, .int .i64 c.P, .bool c.u], .int .i64 self, .int .i64 (l' - 1), .int .i64 x.n]) (u := .bool false) (by kernel_rfl) (fun v => by kernel_rfl) (fun v hv => (cv.out v).mono fun e w' h => ⟨h.1, hv.trans (h.2.mono (KZ.out v hv))⟩) ?_
          simp only [Act.put, List.setIfInBounds_toArray, List.set_cons_zero, List.set_cons_succ]
          refine wqv (u := .bool true) (by kernel_rfl) (fun v hv => by kernel_rfl) ?_
          simp only [Act.put, List.setIfInBounds_toArray, List.set_cons_zero, List.set_cons_succ]
          refine wqv (u := .bool true) (by kernel_rfl) (fun v hv => by kernel_rfl) ?_
          simp only [Act.put, List.setIfInBounds_toArray, List.set_cons_zero, List.set_cons_succ]
          refine wqskip (by kernel_rfl) ?_
          simp only [Act.put, List.setIfInBounds_toArray, List.set_cons_zero, List.set_cons_succ]
          refine wqskip (by kernel_rfl) ?_
          simp only [Act.put, List.setIfInBounds_toArray, List.set_cons_zero, List.set_cons_succ]
          refine wqskip (by kernel_rfl) ?_
          simp only [Act.put, List.setIfInBounds_toArray, List.set_cons_zero, List.set_cons_succ]
          refine wqskip (by kernel_rfl) ?_
          simp only [Act.put, List.setIfInBounds_toArray, List.set_cons_zero, List.set_cons_succ]
          refine wqskip (by kernel_rfl) ?_
          simp only [Act.put, List.setIfInBounds_toArray, List.set_cons_zero, List.set_cons_succ]
          refine wqskip (by kernel_rfl) ?_
          simp only [Act.put, List.setIfInBounds_toArray, List.set_cons_zero, List.set_cons_succ]
          refine wqskip (by kernel_rfl) ?_
          simp only [Act.put, List.setIfInBounds_toArray, List.set_cons_zero, List.set_cons_succ]
          refine wqskip (by kernel_rfl) ?_
          simp only [Act.put, List.setIfInBounds_toArray, List.set_cons_zero, List.set_cons_succ]
          refine wqskip (by kernel_rfl) ?_
          simp only [Act.put, List.setIfInBounds_toArray, List.set_cons_zero, List.set_cons_succ]
          refine wqskip (by kernel_rfl) ?_
          simp only [Act.put, List.setIfInBounds_toArray, List.set_cons_zero, List.set_cons_succ]
          refine wqskip (by kernel_rfl) ?_
          simp only [Act.put, List.setIfInBounds_toArray, List.set_cons_zero, List.set_cons_succ]
          refine wqskip (by kernel_rfl) ?_
          simp only [Act.put, List.setIfInBounds_toArray, List.set_cons_zero, List.set_cons_succ]
          refine wqskip (by kernel_rfl) ?_
          simp only [Act.put, List.setIfInBounds_toArray, List.set_cons_zero, List.set_cons_succ]
          refine wqskip (by kernel_rfl) ?_
          simp only [Act.put, List.setIfInBounds_toArray, List.set_cons_zero, List.set_cons_succ]
          refine wqskip (by kernel_rfl) ?_
          simp only [Act.put, List.setIfInBounds_toArray, List.set_cons_zero, List.set_cons_succ]
          refine wqskip (by kernel_rfl) ?_
          simp only [Act.put, List.setIfInBounds_toArray, List.set_cons_zero, List.set_cons_succ]
          refine wqskip (by kernel_rfl) ?_
          simp only [Act.put, List.setIfInBounds_toArray, List.set_cons_zero, List.set_cons_succ]
          refine wqskip (by kernel_rfl) ?_
          simp only [Act.put, List.setIfInBounds_toArray, List.set_cons_zero, List.set_cons_succ]
          refine wqv (u := .bool true) (by kernel_rfl) (fun v hv => by kernel_rfl) ?_
          simp only [Act.put, List.setIfInBounds_toArray, List.set_cons_zero, List.set_cons_succ]
          refine wqnil (fun w2 hv => ?_)
          have D2 := hide hv
          clear hv
          have hCK2 : Hid (CK = 80) := by show _ = _; rw [hCK1.out, if_pos (c := x.n < l' ∨ 2 * c.F + 1 ≤ x.n ∨ x.n = self ∨ Bl.mb x (2 * c.F + 1) c.R = false) (by rcases HC.out with h | h | h; exact .inl h; exact .inr (.inl h); exact .inr (.inr (.inl h)))]; rfl
          clear hCK1
          go_wp2
          go_ret
          exact ⟨by rw [hCK2.out]; rfl, E1.out.trans (D2.out.mono (by omega))⟩
        · have hV : V = true := by rw [HV.out]; exact decide_eq_true hc
          subst hV
          have HC := hide hc
          have hx0 : 0 ≤ x.n := by omega
          clear hc HV
          obtain ⟨MB, hMB⟩ : ∃ MB, (vmb x.v && lmb x.s.D x.c c.R) = MB := ⟨_, rfl⟩
          have HMB : Hid (Bl.mb x (2 * c.F + 1) c.R = MB) := hMB
          rw [hMB] at cw
          clear hMB
          cases MB with
          | false =>
              refine region_q9 (C := fun v => Below (w.heap.size + 1) w1 v) (by kernel_rfl) (by kernel_rfl) hbl.out.drew ?_
              refine wqv (u := .agg #[.int .i64 c.F, .int .i64 c.R, .int .i64 c.P, .bool c.u]) (by kernel_rfl) (fun v hv => by obtain ⟨⟨y0, y1, y2, y3, y4, y5⟩, k0, k1, k2, k3⟩ := KS.out v hv; go_simp) ?_
              simp only [Act.put, List.setIfInBounds_toArray, List.set_cons_zero, List.set_cons_succ]
              refine wqv (u := .int .i64 self) (by kernel_rfl) (fun v hv => by kernel_rfl) ?_
              simp only [Act.put, List.setIfInBounds_toArray, List.set_cons_zero, List.set_cons_succ]
              refine wqv (u := (.int .i64 (l' - 1))) (by kernel_rfl) (fun v hv => by kernel_rfl) ?_
              simp only [Act.put, List.setIfInBounds_toArray, List.set_cons_zero, List.set_cons_succ]
              refine wqv (u := .slice (some ⟨q, o, none⟩) n k) (by kernel_rfl) (fun v hv => by kernel_rfl) ?_
              simp only [Act.put, List.setIfInBounds_toArray, List.set_cons_zero, List.set_cons_succ]
              refine wqv (u := .int .i64 (j : Int)) (by kernel_rfl) (fun v hv => by kernel_rfl) ?_
              simp only [Act.put, List.setIfInBounds_toArray, List.set_cons_zero, List.set_cons_succ]
              refine wqv (u := .pointer (some ⟨q, o + j * 6, none⟩)) (by kernel_rfl) (fun v hv => by go_simp) ?_
              simp only [Act.put, List.setIfInBounds_toArray, List.set_cons_zero, List.set_cons_succ]
              refine wqv (u := .pointer (some ⟨q, o + j * 6, none⟩)) (by kernel_rfl) (fun v hv => by go_simp) ?_
              simp only [Act.put, List.setIfInBounds_toArray, List.set_cons_zero, List.set_cons_succ]
              refine wqv (u := .int .i64 x.n) (by kernel_rfl) (fun v hv => by obtain ⟨⟨y0, y1, y2, y3, y4, y5⟩, k0, k1, k2, k3⟩ := KS.out v hv; go_simp) ?_
              simp only [Act.put, List.setIfInBounds_toArray, List.set_cons_zero, List.set_cons_succ]
              refine wqc (fid := 48) (args := #[.agg #[.int .i64 c.F, .int .i64 c.R, .int .i64 c.P, .bool c.u], .int .i64 self, .int .i64 (l' - 1), .int .i64 x.n]) (u := .bool true) (by kernel_rfl) (fun v => by kernel_rfl) (fun v hv => (cv.out v).mono fun e w' h => ⟨h.1, hv.trans (h.2.mono (KZ.out v hv))⟩) ?_
              simp only [Act.put, List.setIfInBounds_toArray, List.set_cons_zero, List.set_cons_succ]
              refine wqv (u := .bool false) (by kernel_rfl) (fun v hv => by kernel_rfl) ?_
              simp only [Act.put, List.setIfInBounds_toArray, List.set_cons_zero, List.set_cons_succ]
              refine wqv (u := .bool false) (by kernel_rfl) (fun v hv => by kernel_rfl) ?_
              simp only [Act.put, List.setIfInBounds_toArray, List.set_cons_zero, List.set_cons_succ]
              refine wqv (u := .agg #[.int .i64 c.F, .int .i64 c.R, .int .i64 c.P, .bool c.u]) (by kernel_rfl) (fun v hv => by obtain ⟨⟨y0, y1, y2, y3, y4, y5⟩, k0, k1, k2, k3⟩ := KS.out v hv; go_simp) ?_
              simp only [Act.put, List.setIfInBounds_toArray, List.set_cons_zero, List.set_cons_succ]
              refine wqv (u := .slice (some ⟨q, o, none⟩) n k) (by kernel_rfl) (fun v hv => by kernel_rfl) ?_
              simp only [Act.put, List.setIfInBounds_toArray, List.set_cons_zero, List.set_cons_succ]
              refine wqv (u := .int .i64 (j : Int)) (by kernel_rfl) (fun v hv => by kernel_rfl) ?_
              simp only [Act.put, List.setIfInBounds_toArray, List.set_cons_zero, List.set_cons_succ]
              refine wqv (u := .pointer (some ⟨q, o + j * 6, none⟩)) (by kernel_rfl) (fun v hv => by go_simp) ?_
              simp only [Act.put, List.setIfInBounds_toArray, List.set_cons_zero, List.set_cons_succ]
              refine wqv (u := .pointer (some ⟨q, o + j * 6 + 3, none⟩)) (by kernel_rfl) (fun v hv => by go_simp) ?_
              simp only [Act.put, List.setIfInBounds_toArray, List.set_cons_zero, List.set_cons_succ]
              refine wqv (u := .int .i64 x.v) (by kernel_rfl) (fun v hv => by obtain ⟨⟨y0, y1, y2, y3, y4, y5⟩, k0, k1, k2, k3⟩ := KS.out v hv; go_simp) ?_
              simp only [Act.put, List.setIfInBounds_toArray, List.set_cons_zero, List.set_cons_succ]
              refine wqv (u := .slice (some ⟨q, o, none⟩) n k) (by kernel_rfl) (fun v hv => by kernel_rfl) ?_
              simp only [Act.put, List.setIfInBounds_toArray, List.set_cons_zero, List.set_cons_succ]
              refine wqv (u := .int .i64 (j : Int)) (by kernel_rfl) (fun v hv => by kernel_rfl) ?_
              simp only [Act.put, List.setIfInBounds_toArray, List.set_cons_zero, List.set_cons_succ]
              refine wqv (u := .pointer (some ⟨q, o + j * 6, none⟩)) (by kernel_rfl) (fun v hv => by go_simp) ?_
              simp only [Act.put, List.setIfInBounds_toArray, List.set_cons_zero, List.set_cons_succ]
              refine wqv (u := .pointer (some ⟨q, o + j * 6 + 5, none⟩)) (by kernel_rfl) (fun v hv => by go_simp) ?_
              simp only [Act.put, List.setIfInBounds_toArray, List.set_cons_zero, List.set_cons_succ]
              refine wqv (u := .slice x.s.a x.s.D.length x.s.c) (by kernel_rfl) (fun v hv => by obtain ⟨⟨y0, y1, y2, y3, y4, y5⟩, k0, k1, k2, k3⟩ := KS.out v hv; go_simp) ?_
              simp only [Act.put, List.setIfInBounds_toArray, List.set_cons_zero, List.set_cons_succ]
              refine wqv (u := .slice (some ⟨q, o, none⟩) n k) (by kernel_rfl) (fun v hv => by kernel_rfl) ?_
              simp only [Act.put, List.setIfInBounds_toArray, List.set_cons_zero, List.set_cons_succ]
              refine wqv (u := .int .i64 (j : Int)) (by kernel_rfl) (fun v hv => by kernel_rfl) ?_
              simp only [Act.put, List.setIfInBounds_toArray, List.set_cons_zero, List.set_cons_succ]
              refine wqv (u := .pointer (some ⟨q, o + j * 6, none⟩)) (by kernel_rfl) (fun v hv => by go_simp) ?_
              simp only [Act.put, List.setIfInBounds_toArray, List.set_cons_zero, List.set_cons_succ]
              refine wqv (u := .pointer (some ⟨q, o + j * 6 + 4, none⟩)) (by kernel_rfl) (fun v hv => by go_simp) ?_
              simp only [Act.put, List.setIfInBounds_toArray, List.set_cons_zero, List.set_cons_succ]
              refine wqv (u := .int .i64 x.c) (by kernel_rfl) (fun v hv => by obtain ⟨⟨y0, y1, y2, y3, y4, y5⟩, k0, k1, k2, k3⟩ := KS.out v hv; go_simp) ?_
              simp only [Act.put, List.setIfInBounds_toArray, List.set_cons_zero, List.set_cons_succ]
              refine wqc (fid := 68) (args := #[.agg #[.int .i64 c.F, .int .i64 c.R, .int .i64 c.P, .bool c.u], .int .i64 x.v, .slice x.s.a x.s.D.length x.s.c, .int .i64 x.c]) (u := .bool false) (by kernel_rfl) (fun v => by kernel_rfl) (fun v hv => (cw.out v hv).mono fun e w' h => ⟨h.1, hv.trans (h.2.mono (KZ.out v hv))⟩) ?_
              simp only [Act.put, List.setIfInBounds_toArray, List.set_cons_zero, List.set_cons_succ]
              refine wqv (u := .bool true) (by kernel_rfl) (fun v hv => by kernel_rfl) ?_
              simp only [Act.put, List.setIfInBounds_toArray, List.set_cons_zero, List.set_cons_succ]
              refine wqv (u := .bool true) (by kernel_rfl) (fun v hv => by kernel_rfl) ?_
              simp only [Act.put, List.setIfInBounds_toArray, List.set_cons_zero, List.set_cons_succ]
              refine wqnil (fun w2 hv => ?_)
              have D2 := hide hv
              clear hv
              have hCK2 : Hid (CK = 80) := by show _ = _; rw [hCK1.out, if_pos (c := x.n < l' ∨ 2 * c.F + 1 ≤ x.n ∨ x.n = self ∨ Bl.mb x (2 * c.F + 1) c.R = false) (.inr (.inr (.inr HMB.out)))]; rfl
              clear hCK1
              go_wp2
              go_ret
              exact ⟨by rw [hCK2.out]; rfl, E1.out.trans (D2.out.mono (by omega))⟩
          | true =>
              have HP := hide (show Bl.mb x (2 * c.F + 1) c.R = true from HMB.out)
              refine region_q9 (C := fun v => Below (w.heap.size + 1) w1 v) (by kernel_rfl) (by kernel_rfl) hbl.out.drew ?_
              refine wqv (u := .agg #[.int .i64 c.F, .int .i64 c.R, .int .i64 c.P, .bool c.u]) (by kernel_rfl) (fun v hv => by obtain ⟨⟨y0, y1, y2, y3, y4, y5⟩, k0, k1, k2, k3⟩ := KS.out v hv; go_simp) ?_
              simp only [Act.put, List.setIfInBounds_toArray, List.set_cons_zero, List.set_cons_succ]
              refine wqv (u := .int .i64 self) (by kernel_rfl) (fun v hv => by kernel_rfl) ?_
              simp only [Act.put, List.setIfInBounds_toArray, List.set_cons_zero, List.set_cons_succ]
              refine wqv (u := (.int .i64 (l' - 1))) (by kernel_rfl) (fun v hv => by kernel_rfl) ?_
              simp only [Act.put, List.setIfInBounds_toArray, List.set_cons_zero, List.set_cons_succ]
              refine wqv (u := .slice (some ⟨q, o, none⟩) n k) (by kernel_rfl) (fun v hv => by kernel_rfl) ?_
              simp only [Act.put, List.setIfInBounds_toArray, List.set_cons_zero, List.set_cons_succ]
              refine wqv (u := .int .i64 (j : Int)) (by kernel_rfl) (fun v hv => by kernel_rfl) ?_
              simp only [Act.put, List.setIfInBounds_toArray, List.set_cons_zero, List.set_cons_succ]
              refine wqv (u := .pointer (some ⟨q, o + j * 6, none⟩)) (by kernel_rfl) (fun v hv => by go_simp) ?_
              simp only [Act.put, List.setIfInBounds_toArray, List.set_cons_zero, List.set_cons_succ]
              refine wqv (u := .pointer (some ⟨q, o + j * 6, none⟩)) (by kernel_rfl) (fun v hv => by go_simp) ?_
              simp only [Act.put, List.setIfInBounds_toArray, List.set_cons_zero, List.set_cons_succ]
              refine wqv (u := .int .i64 x.n) (by kernel_rfl) (fun v hv => by obtain ⟨⟨y0, y1, y2, y3, y4, y5⟩, k0, k1, k2, k3⟩ := KS.out v hv; go_simp) ?_
              simp only [Act.put, List.setIfInBounds_toArray, List.set_cons_zero, List.set_cons_succ]
              refine wqc (fid := 48) (args := #[.agg #[.int .i64 c.F, .int .i64 c.R, .int .i64 c.P, .bool c.u], .int .i64 self, .int .i64 (l' - 1), .int .i64 x.n]) (u := .bool true) (by kernel_rfl) (fun v => by kernel_rfl) (fun v hv => (cv.out v).mono fun e w' h => ⟨h.1, hv.trans (h.2.mono (KZ.out v hv))⟩) ?_
              simp only [Act.put, List.setIfInBounds_toArray, List.set_cons_zero, List.set_cons_succ]
              refine wqv (u := .bool false) (by kernel_rfl) (fun v hv => by kernel_rfl) ?_
              simp only [Act.put, List.setIfInBounds_toArray, List.set_cons_zero, List.set_cons_succ]
              refine wqv (u := .bool false) (by kernel_rfl) (fun v hv => by kernel_rfl) ?_
              simp only [Act.put, List.setIfInBounds_toArray, List.set_cons_zero, List.set_cons_succ]
              refine wqv (u := .agg #[.int .i64 c.F, .int .i64 c.R, .int .i64 c.P, .bool c.u]) (by kernel_rfl) (fun v hv => by obtain ⟨⟨y0, y1, y2, y3, y4, y5⟩, k0, k1, k2, k3⟩ := KS.out v hv; go_simp) ?_
              simp only [Act.put, List.setIfInBounds_toArray, List.set_cons_zero, List.set_cons_succ]
              refine wqv (u := .slice (some ⟨q, o, none⟩) n k) (by kernel_rfl) (fun v hv => by kernel_rfl) ?_
              simp only [Act.put, List.setIfInBounds_toArray, List.set_cons_zero, List.set_cons_succ]
              refine wqv (u := .int .i64 (j : Int)) (by kernel_rfl) (fun v hv => by kernel_rfl) ?_
              simp only [Act.put, List.setIfInBounds_toArray, List.set_cons_zero, List.set_cons_succ]
              refine wqv (u := .pointer (some ⟨q, o + j * 6, none⟩)) (by kernel_rfl) (fun v hv => by go_simp) ?_
              simp only [Act.put, List.setIfInBounds_toArray, List.set_cons_zero, List.set_cons_succ]
              refine wqv (u := .pointer (some ⟨q, o + j * 6 + 3, none⟩)) (by kernel_rfl) (fun v hv => by go_simp) ?_
              simp only [Act.put, List.setIfInBounds_toArray, List.set_cons_zero, List.set_cons_succ]
              refine wqv (u := .int .i64 x.v) (by kernel_rfl) (fun v hv => by obtain ⟨⟨y0, y1, y2, y3, y4, y5⟩, k0, k1, k2, k3⟩ := KS.out v hv; go_simp) ?_
              simp only [Act.put, List.setIfInBounds_toArray, List.set_cons_zero, List.set_cons_succ]
              refine wqv (u := .slice (some ⟨q, o, none⟩) n k) (by kernel_rfl) (fun v hv => by kernel_rfl) ?_
              simp only [Act.put, List.setIfInBounds_toArray, List.set_cons_zero, List.set_cons_succ]
              refine wqv (u := .int .i64 (j : Int)) (by kernel_rfl) (fun v hv => by kernel_rfl) ?_
              simp only [Act.put, List.setIfInBounds_toArray, List.set_cons_zero, List.set_cons_succ]
              refine wqv (u := .pointer (some ⟨q, o + j * 6, none⟩)) (by kernel_rfl) (fun v hv => by go_simp) ?_
              simp only [Act.put, List.setIfInBounds_toArray, List.set_cons_zero, List.set_cons_succ]
              refine wqv (u := .pointer (some ⟨q, o + j * 6 + 5, none⟩)) (by kernel_rfl) (fun v hv => by go_simp) ?_
              simp only [Act.put, List.setIfInBounds_toArray, List.set_cons_zero, List.set_cons_succ]
              refine wqv (u := .slice x.s.a x.s.D.length x.s.c) (by kernel_rfl) (fun v hv => by obtain ⟨⟨y0, y1, y2, y3, y4, y5⟩, k0, k1, k2, k3⟩ := KS.out v hv; go_simp) ?_
              simp only [Act.put, List.setIfInBounds_toArray, List.set_cons_zero, List.set_cons_succ]
              refine wqv (u := .slice (some ⟨q, o, none⟩) n k) (by kernel_rfl) (fun v hv => by kernel_rfl) ?_
              simp only [Act.put, List.setIfInBounds_toArray, List.set_cons_zero, List.set_cons_succ]
              refine wqv (u := .int .i64 (j : Int)) (by kernel_rfl) (fun v hv => by kernel_rfl) ?_
              simp only [Act.put, List.setIfInBounds_toArray, List.set_cons_zero, List.set_cons_succ]
              refine wqv (u := .pointer (some ⟨q, o + j * 6, none⟩)) (by kernel_rfl) (fun v hv => by go_simp) ?_
              simp only [Act.put, List.setIfInBounds_toArray, List.set_cons_zero, List.set_cons_succ]
              refine wqv (u := .pointer (some ⟨q, o + j * 6 + 4, none⟩)) (by kernel_rfl) (fun v hv => by go_simp) ?_
              simp only [Act.put, List.setIfInBounds_toArray, List.set_cons_zero, List.set_cons_succ]
              refine wqv (u := .int .i64 x.c) (by kernel_rfl) (fun v hv => by obtain ⟨⟨y0, y1, y2, y3, y4, y5⟩, k0, k1, k2, k3⟩ := KS.out v hv; go_simp) ?_
              simp only [Act.put, List.setIfInBounds_toArray, List.set_cons_zero, List.set_cons_succ]
              refine wqc (fid := 68) (args := #[.agg #[.int .i64 c.F, .int .i64 c.R, .int .i64 c.P, .bool c.u], .int .i64 x.v, .slice x.s.a x.s.D.length x.s.c, .int .i64 x.c]) (u := .bool true) (by kernel_rfl) (fun v => by kernel_rfl) (fun v hv => (cw.out v hv).mono fun e w' h => ⟨h.1, hv.trans (h.2.mono (KZ.out v hv))⟩) ?_
              simp only [Act.put, List.setIfInBounds_toArray, List.set_cons_zero, List.set_cons_succ]
              refine wqv (u := .bool false) (by kernel_rfl) (fun v hv => by kernel_rfl) ?_
              simp only [Act.put, List.setIfInBounds_toArray, List.set_cons_zero, List.set_cons_succ]
              refine wqv (u := .bool false) (by kernel_rfl) (fun v hv => by kernel_rfl) ?_
              simp only [Act.put, List.setIfInBounds_toArray, List.set_cons_zero, List.set_cons_succ]
              refine wqnil (fun w2 hv => ?_)
              have D2 := hide hv
              clear hv
              have hCK2 : Hid (CK = if Bl.ckl c self (x.n + 1) (L.drop (j + 1)) = true then 0 else 80) := by
                show _ = _
                have hy : ¬ (x.n < l' ∨ 2 * c.F + 1 ≤ x.n ∨ x.n = self ∨ Bl.mb x (2 * c.F + 1) c.R = false) := by
                  rintro (h | h | h | h)
                  · exact HC.out (.inl h)
                  · exact HC.out (.inr (.inl h))
                  · exact HC.out (.inr (.inr h))
                  · rw [HP.out] at h; cases h
                rw [hCK1.out, if_neg hy]
              clear hCK1
              obtain ⟨⟨t0, _⟩, _⟩ := KS.out w2 D2.out
              go_wp2
              go_round
              case rel => exact ⟨j + 1, x.n + 1, by go_num, by omega, by rw [show x.n + 1 - 1 = x.n by omega], by omega, hCK2, D2⟩
              case measure => first | (simp [intOf]; done) | (simp [intOf]; omega)
      · obtain rfl : j = n := by omega
        have hCK1 : Hid (CK = 0) := by show _ = _; rw [hCK.out, List.drop_of_length_le (by rw [HN.out]; exact Nat.le_refl _), Bl.ckl, if_pos rfl]
        clear hCK
        go_wp2
        go_ret
        exact ⟨by rw [hCK1.out]; rfl, E1.out.trans (hbl.out.mono (by omega))⟩
  · have hk2 : c.ok = false := by simpa using hk
    have hCK1 : Hid (CK = 1) := by show _ = _; rw [HCK.out, if_pos hk2]
    rw [if_neg hk]
    clear HCK
    go_wp2
    go_ret
    exact ⟨by rw [hCK1.out]; rfl, E1.out⟩

end Go.Proofs.YtcmjhaljbmhpgaaGreat
