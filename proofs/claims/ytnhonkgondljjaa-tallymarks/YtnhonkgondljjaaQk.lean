import Derived.Test.YtnhonkgondljjaaSmc
namespace Go.Proofs.Ytnhonkgondljjaa
open Go.RowKit Go.Maps
open Classical
set_option linter.unusedVariables false
set_option linter.unusedSimpArgs false

set_option maxRecDepth 100000 in
/-- The document's config. -/
theorem refconfig_any (c : Cg) (w : World) : Calls Try.prog 48 #[.agg #[.int .i64 c.F, .int .i64 c.R, .int .i64 c.P, .bool c.u]] w fun e w' => e = .returned (.int .i64 (if c.ok = true then 0 else 1)) ∧ Below w.heap.size w w' := by
  have bw : Hid (Below w.heap.size w (w.alloc (.cells #[.int .i64 c.F, .int .i64 c.R, .int .i64 c.P, .bool c.u] 23))) := (Below.refl _ w).alloc (Nat.le_refl _) _
  have HK : Hid ((if c.ok = true then (0 : Int) else 1) = if 1 ≤ c.F ∧ c.F ≤ 3 ∧ 1 ≤ c.R ∧ c.R ≤ 256 then 0 else 1) := by
    show _ = _
    unfold Cg.ok
    simp only [decide_eq_true_eq]
  generalize (if c.ok = true then (0 : Int) else 1) = r at *
  by_cases h1 : c.F < 1
  · have hk : Hid (r = 1) := by show _ = _; rw [HK.out, if_neg (by omega)]
    go_enter Try.func48, Try.ntmps48
    go_wp2
    go_ret
    exact ⟨by rw [hk.out]; rfl, bw.out⟩
  by_cases h2 : 3 < c.F
  · have hk : Hid (r = 1) := by show _ = _; rw [HK.out, if_neg (by omega)]
    go_enter Try.func48, Try.ntmps48
    go_wp2
    go_ret
    exact ⟨by rw [hk.out]; rfl, bw.out⟩
  by_cases h3 : c.R < 1
  · have hk : Hid (r = 1) := by show _ = _; rw [HK.out, if_neg (by omega)]
    go_enter Try.func48, Try.ntmps48
    go_wp2
    go_ret
    exact ⟨by rw [hk.out]; rfl, bw.out⟩
  by_cases h4 : 256 < c.R
  · have hk : Hid (r = 1) := by show _ = _; rw [HK.out, if_neg (by omega)]
    go_enter Try.func48, Try.ntmps48
    go_wp2
    go_ret
    exact ⟨by rw [hk.out]; rfl, bw.out⟩
  have hk : Hid (r = 0) := by show _ = _; rw [HK.out, if_pos (by omega)]
  go_enter Try.func48, Try.ntmps48
  go_wp2
  go_ret
  exact ⟨by rw [hk.out]; rfl, bw.out⟩
/-- May a node stand behind the one ahead of it? -/
def vot (c : Cg) (self ahead node : Int) : Bool := decide (ahead < node ∧ 0 ≤ node ∧ node < 2 * c.F + 1 ∧ node ≠ self)
set_option maxRecDepth 100000 in
theorem refvoter_any (c : Cg) (self ahead node : Int) (w : World) (h1 : 1 ≤ c.F) (h3 : c.F ≤ 3) : Calls Try.prog 49 #[.agg #[.int .i64 c.F, .int .i64 c.R, .int .i64 c.P, .bool c.u], .int .i64 self, .int .i64 ahead, .int .i64 node] w fun e w' => e = .returned (.bool (vot c self ahead node)) ∧ Below w.heap.size w w' := by
  have bw : Hid (Below w.heap.size w (w.alloc (.cells #[.int .i64 c.F, .int .i64 c.R, .int .i64 c.P, .bool c.u] 23))) := (Below.refl _ w).alloc (Nat.le_refl _) _
  have hw1 : IntKind.i64.wrap (2 * c.F) = 2 * c.F := by rw [IntKind.wrap_i64]; omega
  have hw2 : IntKind.i64.wrap (2 * c.F + 1) = 2 * c.F + 1 := by rw [IntKind.wrap_i64]; omega
  have HK : Hid (vot c self ahead node = decide (ahead < node ∧ 0 ≤ node ∧ node < 2 * c.F + 1 ∧ node ≠ self)) := rfl
  generalize vot c self ahead node = V at *
  by_cases g1 : ahead < node
  · by_cases g2 : 0 ≤ node
    · by_cases g3 : node < 2 * c.F + 1
      · by_cases g4 : node = self
        · have hk : Hid (V = false) := by show _ = _; rw [HK.out]; exact decide_eq_false (fun h => h.2.2.2 g4)
          have g4b : (node != self) = false := by simp [g4]
          clear g4
          go_enter Try.func49, Try.ntmps49
          go_wp2
          go_ret
          exact ⟨by rw [hk.out]; rfl, bw.out⟩
        · have hk : Hid (V = true) := by show _ = _; rw [HK.out]; exact decide_eq_true ⟨g1, g2, g3, g4⟩
          have g4b : (node != self) = true := by simp [g4]
          go_enter Try.func49, Try.ntmps49
          go_wp2
          go_ret
          exact ⟨by rw [hk.out]; rfl, bw.out⟩
      · have hk : Hid (V = false) := by show _ = _; rw [HK.out]; exact decide_eq_false (fun h => g3 h.2.2.1)
        go_enter Try.func49, Try.ntmps49
        go_wp2
        go_ret
        exact ⟨by rw [hk.out]; rfl, bw.out⟩
    · have hk : Hid (V = false) := by show _ = _; rw [HK.out]; exact decide_eq_false (fun h => g2 h.2.1)
      go_enter Try.func49, Try.ntmps49
      go_wp2
      go_ret
      exact ⟨by rw [hk.out]; rfl, bw.out⟩
  · have hk : Hid (V = false) := by show _ = _; rw [HK.out]; exact decide_eq_false (fun h => g1 h.1)
    go_enter Try.func49, Try.ntmps49
    go_wp2
    go_ret
    exact ⟨by rw [hk.out]; rfl, bw.out⟩
set_option maxRecDepth 100000 in
set_option maxHeartbeats 2000000 in
/-- The document's CheckMarks. -/
theorem refcheckmarks_any (c : Cg) (self : Int) (L : List Mk) (a : Option Addr) (n k : Nat) (w : World) (h : SlY yMkA w a n k L) :
    Calls Try.prog 16 #[.agg #[.int .i64 c.F, .int .i64 c.R, .int .i64 c.P, .bool c.u], .int .i64 self, .slice a n k] w fun e w' => e = .returned (.int .i64 (Mk.ck c self L)) ∧ Below w.heap.size w w' := by
  have hmx := h.max
  have hcp := h.cap
  have hln := h.len
  unfold maxLen at hmx
  have H := hide h
  have HN := hide hln
  clear h hln
  have B0 : Hid (Below w.heap.size w (w.alloc (.cells #[.int .i64 c.F, .int .i64 c.R, .int .i64 c.P, .bool c.u] 23))) := (Below.refl _ w).alloc (Nat.le_refl _) _
  have HCK : Hid (Mk.ck c self L = if c.ok = false then 1 else if Mk.ckl c self 0 L = true then 0 else 80) := rfl
  generalize Mk.ck c self L = CK at *
  go_enter Try.func16, Try.ntmps16
  go_wp2_with fail
  refine (refconfig_any c _).mono ?_
  rintro e w1 ⟨rfl, b1⟩
  dsimp only
  have hz1 : w.heap.size + 1 ≤ w1.heap.size := by have := b1.size; simpa using this
  have D1 : Hid (Below (w.heap.size + 1) (w.alloc (.cells #[.int .i64 c.F, .int .i64 c.R, .int .i64 c.P, .bool c.u] 23)) w1) := by show Below _ _ _; simpa using b1
  clear b1
  have KC : Hid (∀ v, Below (w.heap.size + 1) w1 v → v.cell? ⟨w.heap.size, 0, none⟩ = some (.int .i64 c.F) ∧ v.cell? ⟨w.heap.size, 1, none⟩ = some (.int .i64 c.R) ∧ v.cell? ⟨w.heap.size, 2, none⟩ = some (.int .i64 c.P) ∧ v.cell? ⟨w.heap.size, 3, none⟩ = some (.bool c.u)) := fun v hv =>
    ⟨((D1.out.trans hv).cell (p := ⟨w.heap.size, 0, none⟩) (by simp)).trans (by simp), ((D1.out.trans hv).cell (p := ⟨w.heap.size, 1, none⟩) (by simp)).trans (by simp), ((D1.out.trans hv).cell (p := ⟨w.heap.size, 2, none⟩) (by simp)).trans (by simp), ((D1.out.trans hv).cell (p := ⟨w.heap.size, 3, none⟩) (by simp)).trans (by simp)⟩
  have E1 := hide (B0.out.trans (D1.out.mono (by omega)))
  by_cases hk : c.ok = true
  · have hF : 1 ≤ c.F ∧ c.F ≤ 3 ∧ 1 ≤ c.R ∧ c.R ≤ 256 := of_decide_eq_true hk
    obtain ⟨hF1, hF3, _, _⟩ := hF
    have HC2 : Hid (CK = if Mk.ckl c self 0 (L.drop 0) = true then 0 else 80) := by show _ = _; rw [HCK.out, hk, if_neg (by simp)]; rfl
    rw [if_pos hk]
    clear HCK hk
    go_wp2
    go_loopw [8, 7] (fun i l wr => ∃ (j : Nat) (l' : Int), i = .int .i64 (j : Int) ∧ j ≤ n ∧ l = .int .i64 (l' - 1) ∧ 0 ≤ l' ∧ Hid (CK = if Mk.ckl c self l' (L.drop j) = true then 0 else 80) ∧ Hid (Below (w.heap.size + 1) w1 wr)) (fun i _ _ => n - (intOf i).toNat)
    case atStart => exact ⟨0, 0, rfl, Nat.zero_le _, rfl, Int.le_refl _, HC2, Below.refl _ _⟩
    case round =>
      obtain ⟨j, l', rfl, hj, rfl, hl0, hCK, hbl⟩ := hrel
      have zr : w.heap.size + 1 ≤ wr.heap.size := by have := hbl.out.size; omega
      by_cases hlt : j < n
      · have hjl : j < L.length := by rw [HN.out]; exact hlt
        have hg : L[j]? = some L[j] := List.getElem?_eq_getElem hjl
        have KL : Hid (∀ v, Below (w.heap.size + 1) w1 v → SlY yMkA v a n k L) := fun v hv => H.out.later (E1.out.trans (hv.mono (by omega)))
        obtain ⟨q, o, ea, hq, y0, _⟩ := (KL.out wr hbl.out).MkA hg
        have hCK1 : Hid (CK = if (if L[j].n < l' ∨ 2 * c.F + 1 ≤ L[j].n ∨ L[j].n = self ∨ Mk.mb L[j] (2 * c.F + 1) c.R = false then false else Mk.ckl c self (L[j].n + 1) (L.drop (j + 1))) = true then 0 else 80) := by
          show _ = _
          rw [hCK.out, List.drop_eq_getElem_cons hjl, Mk.ckl]
        have KS : Hid (∀ v, Below (w.heap.size + 1) w1 v → (v.cell? ⟨q, o + j * 3, none⟩ = some (.int .i64 L[j].n)) ∧ v.cell? ⟨w.heap.size, 0, none⟩ = some (.int .i64 c.F) ∧ v.cell? ⟨w.heap.size, 1, none⟩ = some (.int .i64 c.R) ∧ v.cell? ⟨w.heap.size, 2, none⟩ = some (.int .i64 c.P) ∧ v.cell? ⟨w.heap.size, 3, none⟩ = some (.bool c.u)) := fun v hv => by
          obtain ⟨q', o', ea', _, yy, _⟩ := (KL.out v hv).MkA hg
          rw [ea] at ea'
          cases ea'
          exact ⟨yy, KC.out v hv⟩
        cases ea
        clear hg hCK
        generalize L[j] = x at *
        have s0 := KS.out _ hbl.out.drew
        have cv := hide (fun W => refvoter_any c self (l' - 1) x.n W hF1 hF3)
        have HV : Hid (vot c self (l' - 1) x.n = decide (¬ (x.n < l' ∨ 2 * c.F + 1 ≤ x.n ∨ x.n = self))) := by
          show decide _ = decide _
          apply decide_eq_decide.2
          omega
        generalize vot c self (l' - 1) x.n = V at *
        go_wp2_with fail
        go_region_held3 (fun v => (v.cell? ⟨q, o + j * 3, none⟩ = some (.int .i64 x.n)) ∧ v.cell? ⟨w.heap.size, 0, none⟩ = some (.int .i64 c.F) ∧ v.cell? ⟨w.heap.size, 1, none⟩ = some (.int .i64 c.R) ∧ v.cell? ⟨w.heap.size, 2, none⟩ = some (.int .i64 c.P) ∧ v.cell? ⟨w.heap.size, 3, none⟩ = some (.bool c.u)) (with_reducible assumption) (first
          | (go_at_call 49; refine (cv.out _).mono ?_; rintro e w2 ⟨rfl, b2⟩; have D2 := hide (hbl.out.drew.trans (b2.mono (by show _ ≤ wr.heap.size; omega))); have s2 := KS.out w2 D2.out; clear b2))
        obtain ⟨t0, _⟩ := KS.out w2 D2.out
        by_cases hc : x.n < l' ∨ 2 * c.F + 1 ≤ x.n ∨ x.n = self
        · have hV : V = false := by rw [HV.out]; exact decide_eq_false (fun h => h hc)
          rw [hV]
          have hCK2 : Hid (CK = 80) := by
            show _ = _
            have hy : x.n < l' ∨ 2 * c.F + 1 ≤ x.n ∨ x.n = self ∨ Mk.mb x (2 * c.F + 1) c.R = false := by
              rcases hc with hc | hc | hc
              · exact .inl hc
              · exact .inr (.inl hc)
              · exact .inr (.inr (.inl hc))
            rw [hCK1.out, if_pos hy]
            rfl
          clear hCK1 HV hc
          go_wp2
          go_ret
          exact ⟨by rw [hCK2.out]; rfl, E1.out.trans (D2.out.mono (by omega))⟩
        · have hV : V = true := by rw [HV.out]; exact decide_eq_true hc
          rw [hV]
          have hCK2 : Hid (CK = if Mk.ckl c self (x.n + 1) (L.drop (j + 1)) = true then 0 else 80) := by
            show _ = _
            have hy : ¬ (x.n < l' ∨ 2 * c.F + 1 ≤ x.n ∨ x.n = self ∨ Mk.mb x (2 * c.F + 1) c.R = false) := by
              rintro (h | h | h | h)
              · exact hc (.inl h)
              · exact hc (.inr (.inl h))
              · exact hc (.inr (.inr h))
              · cases h
            rw [hCK1.out, if_neg hy]
          have hx0 : 0 ≤ x.n := by omega
          clear hCK1 HV hc
          go_wp2
          go_round
          case rel => exact ⟨j + 1, x.n + 1, by go_num, by omega, by rw [show x.n + 1 - 1 = x.n by omega], by omega, hCK2, D2⟩
          case measure => first | (simp [intOf]; done) | (simp [intOf]; omega)
      · obtain rfl : j = n := by omega
        have hCK1 : Hid (CK = 0) := by show _ = _; rw [hCK.out, List.drop_of_length_le (by rw [HN.out]; exact Nat.le_refl _), Mk.ckl, if_pos rfl]
        clear hCK
        go_wp2
        go_ret
        exact ⟨by rw [hCK1.out]; rfl, E1.out.trans (hbl.out.mono (by omega))⟩
  · have hk2 : c.ok = false := by simpa using hk
    have hCK1 : Hid (CK = 1) := by show _ = _; rw [HCK.out, if_pos hk2]
    rw [if_neg hk]
    clear HCK
    go_wp2
    go_ret
    exact ⟨by rw [hCK1.out]; rfl, E1.out⟩

end Go.Proofs.Ytnhonkgondljjaa
