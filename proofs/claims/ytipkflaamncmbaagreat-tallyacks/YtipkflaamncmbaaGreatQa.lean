import Derived.Test.YtipkflaamncmbaaGreatGTi
namespace Go.Proofs.YtipkflaamncmbaaGreat
open Go.RowKit Go.Maps
open Classical
set_option linter.unusedVariables false
set_option linter.unusedSimpArgs false

/-- The place that the document tries at its turn j: own, then each one's place, as far as own goes. -/
def cand (own : Int) (L : List Ak) (j : Nat) : Int := if j = 0 then own else match L[j - 1]? with
  | some x => if x.p < own then x.p else own
  | none => own
/-- The best place behind j turns. -/
def bst (f own : Int) (L : List Ak) : Nat → Int
  | 0 => 0
  | j + 1 => if f ≤ (cnt (cand own L j) (L.map (·.p)) : Int) ∧ bst f own L j < cand own L j then cand own L j else bst f own L j
theorem cnt_step8 {m : Int} {L : List Ak} {i : Nat} {x : Ak} (h : L[i]? = some x) : cnt m ((L.take (i + 1)).map (·.p)) = cnt m ((L.take i).map (·.p)) + if m ≤ x.p then 1 else 0 := by
  unfold cnt
  rw [List.take_add_one, h, Option.toList_some, List.map_append, List.filter_append, List.length_append]
  by_cases c : m ≤ x.p <;> simp [c]
theorem cand_le (own : Int) (L : List Ak) (j : Nat) : cand own L j ≤ own := by
  unfold cand
  split
  · exact Int.le_refl _
  · split
    · split <;> omega
    · exact Int.le_refl _
theorem bst_nonneg (f own : Int) (L : List Ak) : ∀ j, 0 ≤ bst f own L j
  | 0 => Int.le_refl _
  | j + 1 => by
    have := bst_nonneg f own L j
    unfold bst
    split
    · omega
    · omega
theorem bst_ge (f own : Int) (L : List Ak) (m : Int) (hm : 1 ≤ m) : ∀ j, m ≤ bst f own L j ↔ ∃ i, i < j ∧ m ≤ cand own L i ∧ f ≤ (cnt (cand own L i) (L.map (·.p)) : Int)
  | 0 => ⟨fun h => by unfold bst at h; omega, fun ⟨i, h, _⟩ => by omega⟩
  | j + 1 => by
    have ih := bst_ge f own L m hm j
    have h0 := bst_nonneg f own L j
    unfold bst
    split
    · rename_i h
      constructor
      · intro hc
        exact ⟨j, by omega, hc, h.1⟩
      · rintro ⟨i, hi, h1, h2⟩
        by_cases hij : i = j
        · subst hij
          exact h1
        · have := ih.2 ⟨i, by omega, h1, h2⟩
          omega
    · rename_i h
      rw [ih]
      constructor
      · rintro ⟨i, hi, h1, h2⟩
        exact ⟨i, by omega, h1, h2⟩
      · rintro ⟨i, hi, h1, h2⟩
        by_cases hij : i = j
        · subst hij
          have : cand own L i ≤ bst f own L i := by
            by_cases hc : bst f own L i < cand own L i
            · exact absurd ⟨h2, hc⟩ h
            · omega
          exact ih.1 (by omega)
        · exact ⟨i, by omega, h1, h2⟩
theorem cand_zero (own : Int) (L : List Ak) : cand own L 0 = own := by unfold cand; rw [if_pos rfl]
theorem cand_succ {own : Int} {L : List Ak} {i : Nat} {x : Ak} (h : L[i]? = some x) : cand own L (i + 1) = min own x.p := by
  unfold cand
  rw [if_neg (by omega), Nat.add_sub_cancel, h]
  dsimp only
  split <;> omega
/-- The document's answer is what the code reaches. -/
theorem bst_eq (f own : Int) (L : List Ak) : bst f own L (L.length + 1) = rch f own L := by
  have h0 := bst_nonneg f own L (L.length + 1)
  have h1 := rch_nonneg f own L
  have key : ∀ m, 1 ≤ m → (m ≤ bst f own L (L.length + 1) ↔ m ≤ rch f own L) := by
    intro m hm
    rw [bst_ge f own L m hm]
    by_cases hf : f < 1
    · have hr : rch f own L = max own 0 := by unfold rch; rw [if_pos hf]
      rw [hr]
      constructor
      · rintro ⟨i, _, h2, _⟩
        have := cand_le own L i
        omega
      · intro h2
        exact ⟨0, by omega, by rw [cand_zero]; omega, by omega⟩
    · have hf1 : 1 ≤ f := by omega
      constructor
      · rintro ⟨i, _, h2, h3⟩
        rw [rch_ge hf1 hm]
        have := cand_le own L i
        have := cnt_mono h2 (L.map (·.p))
        exact ⟨by omega, by omega⟩
      · intro h2
        have hR : 1 ≤ rch f own L := by omega
        have h3 := (rch_ge hf1 hR).1 (Int.le_refl _)
        have hfl : ¬ ((L.length : Int) < f) := by
          intro hc
          unfold rch at hR
          rw [if_neg hf, if_pos hc] at hR
          omega
        obtain ⟨F, rfl⟩ : ∃ F : Nat, f = (F : Int) := ⟨f.toNat, by omega⟩
        have hr : rch (F : Int) own L = max 0 (min own ((srt (L.map (·.p))).getD (L.length - F) 0)) := by unfold rch; rw [if_neg hf, if_neg hfl, Int.toNat_natCast]
        have hl : (srt (L.map (·.p))).length = L.length := by rw [srt_len, List.length_map]
        have hmem : (srt (L.map (·.p))).getD (L.length - F) 0 ∈ L.map (·.p) := by
          rw [← (srt_perm (L.map (·.p))).mem_iff, List.getD_eq_getElem?_getD, List.getElem?_eq_getElem (by omega), Option.getD_some]
          exact List.getElem_mem _
        generalize (srt (L.map (·.p))).getD (L.length - F) 0 = p at *
        obtain ⟨x, hx, rfl⟩ := List.mem_map.1 hmem
        obtain ⟨i, hi, rfl⟩ := List.mem_iff_getElem.1 hx
        have hc := cand_succ (own := own) (List.getElem?_eq_getElem hi)
        have he : rch (F : Int) own L = cand own L (i + 1) := by rw [hc, hr]; omega
        rw [he] at h2 h3
        exact ⟨i + 1, by omega, h2, h3.2⟩
  by_cases c : 1 ≤ bst f own L (L.length + 1)
  · have a1 := (key _ c).1 (Int.le_refl _)
    have a2 := (key (rch f own L) (by omega)).2 (Int.le_refl _)
    omega
  · by_cases d : 1 ≤ rch f own L
    · have := (key _ d).2 (Int.le_refl _)
      omega
    · omega
theorem cnt_take_le (m : Int) (L : List Ak) (i : Nat) : cnt m ((L.take i).map (·.p)) ≤ i := by
  unfold cnt
  refine Nat.le_trans (List.length_filter_le _ _) ?_
  rw [List.length_map, List.length_take]
  omega
set_option maxRecDepth 100000 in
set_option maxHeartbeats 2000000 in
/-- The document's Reached. -/
theorem refreached_any (f own : Int) (L : List Ak) (a : Option Addr) (n c : Nat) (w : World) (h : SlY yAkA w a n c L) :
    Calls Tryz.prog 16 #[.int .i64 f, .int .i64 own, .slice a n c] w fun e w' => e = .returned (.int .i64 (rch f own L)) ∧ w' = w := by
  have hmx := h.max
  have hcp := h.cap
  have hln := h.len
  unfold maxLen at hmx
  have hr : Hid (rch f own L = bst f own L (n + 1)) := by show _ = _; rw [← hln, bst_eq]
  generalize rch f own L = R at *
  have H := hide h
  have HN := hide hln
  clear h hln
  go_enter Tryz.func16, Tryz.ntmps16
  go_wp2
  go_loopw [8, 7] (fun k b wr => ∃ j : Nat, k = .int .i64 ((j : Int) - 1) ∧ j ≤ n + 1 ∧ b = .int .i64 (bst f own L j) ∧ wr = w) (fun k _ _ => n + 1 - (intOf k + 1).toNat)
  case atStart => exact ⟨0, rfl, Nat.zero_le _, rfl, rfl⟩
  case round =>
    obtain ⟨j, rfl, hj, rfl, hwr⟩ := hrel
    have hwr := hwr.symm
    subst hwr
    by_cases hjn : j < n + 1
    · have HB : Hid (bst f own L (j + 1) = if f ≤ (cnt (cand own L j) (L.map (·.p)) : Int) ∧ bst f own L j < cand own L j then cand own L j else bst f own L j) := rfl
      generalize bst f own L j = B at *
      cases j with
      | zero =>
        rw [cand_zero] at HB
        have hz : ((0 : Nat) : Int) - 1 = -1 := rfl
        rw [hz]
        go_wp2
        go_loopw [11, 10] (fun i t wr => ∃ (i' T : Nat), i = .int .i64 (i' : Int) ∧ i' ≤ n ∧ t = .int .i64 (T : Int) ∧ Hid (T = cnt own ((L.take i').map (·.p))) ∧ wr = w) (fun i _ _ => n - (intOf i).toNat)
        case atStart => exact ⟨0, 0, rfl, Nat.zero_le _, rfl, rfl, rfl⟩
        case round =>
          obtain ⟨i, T, rfl, hi, rfl, hT, hwr⟩ := hrel
          have hwr := hwr.symm
          subst hwr
          have hTb : T ≤ i := by rw [hT.out]; exact cnt_take_le _ _ _
          by_cases hlt : i < n
          · have hil : i < L.length := by rw [HN.out]; exact hlt
            have hg : L[i]? = some L[i] := List.getElem?_eq_getElem hil
            obtain ⟨q', o', ee, hq', _, _, _, x3⟩ := H.out.AkA hg
            cases ee
            have hs := hide (cnt_step8 (m := own) hg)
            clear hg
            generalize L[i] = y at *
            by_cases c1 : own ≤ y.p
            · have e1 : Hid (T + 1 = cnt own ((L.take (i + 1)).map (·.p))) := by show _ = _; rw [hs.out, ← hT.out, if_pos c1]
              clear hs hT
              go_wp2
              go_round
              case rel => exact ⟨i + 1, T + 1, by go_num, by omega, by go_num, e1, trivial⟩
              case measure => first | (simp [intOf]; done) | (simp [intOf]; omega)
            · have e1 : Hid (T = cnt own ((L.take (i + 1)).map (·.p))) := by show _ = _; rw [hs.out, ← hT.out, if_neg c1]; rfl
              clear hs hT
              go_wp2
              go_round
              case rel => exact ⟨i + 1, T, by go_num, by omega, rfl, e1, trivial⟩
              case measure => first | (simp [intOf]; done) | (simp [intOf]; omega)
          · obtain rfl : i = n := by omega
            have hT2 : Hid (T = cnt own (L.map (·.p))) := by
              show _ = _
              rw [hT.out, List.take_of_length_le (by rw [HN.out]; exact Nat.le_refl _)]
            clear hT
            by_cases d1 : f ≤ (T : Int)
            · by_cases d2 : B < own
              · have hN : Hid (bst f own L (0 + 1) = own) := by show _ = _; rw [HB.out, ← hT2.out, if_pos ⟨d1, d2⟩]
                clear HB hT2
                go_wp2
                go_round
                case rel => exact ⟨0 + 1, by go_num, by omega, by rw [hN.out], trivial⟩
                case measure => first | (simp [intOf]; done) | (simp [intOf]; omega)
              · have hN : Hid (bst f own L (0 + 1) = B) := by show _ = _; rw [HB.out, if_neg (fun hc => d2 hc.2)]
                clear HB hT2
                go_wp2
                go_round
                case rel => exact ⟨0 + 1, by go_num, by omega, by rw [hN.out], trivial⟩
                case measure => first | (simp [intOf]; done) | (simp [intOf]; omega)
            · have hN : Hid (bst f own L (0 + 1) = B) := by show _ = _; rw [HB.out, ← hT2.out, if_neg (fun hc => d1 hc.1)]
              clear HB hT2
              go_wp2
              go_round
              case rel => exact ⟨0 + 1, by go_num, by omega, by rw [hN.out], trivial⟩
              case measure => first | (simp [intOf]; done) | (simp [intOf]; omega)
      | succ i0 =>
        have hil0 : i0 < L.length := by rw [HN.out]; omega
        have hg0 : L[i0]? = some L[i0] := List.getElem?_eq_getElem hil0
        rw [cand_succ hg0] at HB
        obtain ⟨q0, o0, rfl, hq0, _, _, _, z3⟩ := H.out.AkA hg0
        have hz : ((i0 + 1 : Nat) : Int) - 1 = (i0 : Int) := by omega
        rw [hz]
        clear hg0
        generalize L[i0] = x at *
        by_cases c0 : x.p < own
        · rw [show min own x.p = x.p by omega] at HB
          go_wp2
          go_loopw [11, 10] (fun i t wr => ∃ (i' T : Nat), i = .int .i64 (i' : Int) ∧ i' ≤ n ∧ t = .int .i64 (T : Int) ∧ Hid (T = cnt x.p ((L.take i').map (·.p))) ∧ wr = w) (fun i _ _ => n - (intOf i).toNat)
          case atStart => exact ⟨0, 0, rfl, Nat.zero_le _, rfl, rfl, rfl⟩
          case round =>
            obtain ⟨i, T, rfl, hi, rfl, hT, hwr⟩ := hrel
            have hwr := hwr.symm
            subst hwr
            have hTb : T ≤ i := by rw [hT.out]; exact cnt_take_le _ _ _
            by_cases hlt : i < n
            · have hil : i < L.length := by rw [HN.out]; exact hlt
              have hg : L[i]? = some L[i] := List.getElem?_eq_getElem hil
              obtain ⟨q', o', ee, hq', _, _, _, x3⟩ := H.out.AkA hg
              cases ee
              have hs := hide (cnt_step8 (m := x.p) hg)
              clear hg
              generalize L[i] = y at *
              by_cases c1 : x.p ≤ y.p
              · have e1 : Hid (T + 1 = cnt x.p ((L.take (i + 1)).map (·.p))) := by show _ = _; rw [hs.out, ← hT.out, if_pos c1]
                clear hs hT
                go_wp2
                go_round
                case rel => exact ⟨i + 1, T + 1, by go_num, by omega, by go_num, e1, trivial⟩
                case measure => first | (simp [intOf]; done) | (simp [intOf]; omega)
              · have e1 : Hid (T = cnt x.p ((L.take (i + 1)).map (·.p))) := by show _ = _; rw [hs.out, ← hT.out, if_neg c1]; rfl
                clear hs hT
                go_wp2
                go_round
                case rel => exact ⟨i + 1, T, by go_num, by omega, rfl, e1, trivial⟩
                case measure => first | (simp [intOf]; done) | (simp [intOf]; omega)
            · obtain rfl : i = n := by omega
              have hT2 : Hid (T = cnt x.p (L.map (·.p))) := by
                show _ = _
                rw [hT.out, List.take_of_length_le (by rw [HN.out]; exact Nat.le_refl _)]
              clear hT
              by_cases d1 : f ≤ (T : Int)
              · by_cases d2 : B < x.p
                · have hN : Hid (bst f own L (i0 + 1 + 1) = x.p) := by show _ = _; rw [HB.out, ← hT2.out, if_pos ⟨d1, d2⟩]
                  clear HB hT2
                  go_wp2
                  go_round
                  case rel => exact ⟨i0 + 1 + 1, by go_num, by omega, by rw [hN.out], trivial⟩
                  case measure => first | (simp [intOf]; done) | (simp [intOf]; omega)
                · have hN : Hid (bst f own L (i0 + 1 + 1) = B) := by show _ = _; rw [HB.out, if_neg (fun hc => d2 hc.2)]
                  clear HB hT2
                  go_wp2
                  go_round
                  case rel => exact ⟨i0 + 1 + 1, by go_num, by omega, by rw [hN.out], trivial⟩
                  case measure => first | (simp [intOf]; done) | (simp [intOf]; omega)
              · have hN : Hid (bst f own L (i0 + 1 + 1) = B) := by show _ = _; rw [HB.out, ← hT2.out, if_neg (fun hc => d1 hc.1)]
                clear HB hT2
                go_wp2
                go_round
                case rel => exact ⟨i0 + 1 + 1, by go_num, by omega, by rw [hN.out], trivial⟩
                case measure => first | (simp [intOf]; done) | (simp [intOf]; omega)
        · rw [show min own x.p = own by omega] at HB
          go_wp2
          go_loopw [11, 10] (fun i t wr => ∃ (i' T : Nat), i = .int .i64 (i' : Int) ∧ i' ≤ n ∧ t = .int .i64 (T : Int) ∧ Hid (T = cnt own ((L.take i').map (·.p))) ∧ wr = w) (fun i _ _ => n - (intOf i).toNat)
          case atStart => exact ⟨0, 0, rfl, Nat.zero_le _, rfl, rfl, rfl⟩
          case round =>
            obtain ⟨i, T, rfl, hi, rfl, hT, hwr⟩ := hrel
            have hwr := hwr.symm
            subst hwr
            have hTb : T ≤ i := by rw [hT.out]; exact cnt_take_le _ _ _
            by_cases hlt : i < n
            · have hil : i < L.length := by rw [HN.out]; exact hlt
              have hg : L[i]? = some L[i] := List.getElem?_eq_getElem hil
              obtain ⟨q', o', ee, hq', _, _, _, x3⟩ := H.out.AkA hg
              cases ee
              have hs := hide (cnt_step8 (m := own) hg)
              clear hg
              generalize L[i] = y at *
              by_cases c1 : own ≤ y.p
              · have e1 : Hid (T + 1 = cnt own ((L.take (i + 1)).map (·.p))) := by show _ = _; rw [hs.out, ← hT.out, if_pos c1]
                clear hs hT
                go_wp2
                go_round
                case rel => exact ⟨i + 1, T + 1, by go_num, by omega, by go_num, e1, trivial⟩
                case measure => first | (simp [intOf]; done) | (simp [intOf]; omega)
              · have e1 : Hid (T = cnt own ((L.take (i + 1)).map (·.p))) := by show _ = _; rw [hs.out, ← hT.out, if_neg c1]; rfl
                clear hs hT
                go_wp2
                go_round
                case rel => exact ⟨i + 1, T, by go_num, by omega, rfl, e1, trivial⟩
                case measure => first | (simp [intOf]; done) | (simp [intOf]; omega)
            · obtain rfl : i = n := by omega
              have hT2 : Hid (T = cnt own (L.map (·.p))) := by
                show _ = _
                rw [hT.out, List.take_of_length_le (by rw [HN.out]; exact Nat.le_refl _)]
              clear hT
              by_cases d1 : f ≤ (T : Int)
              · by_cases d2 : B < own
                · have hN : Hid (bst f own L (i0 + 1 + 1) = own) := by show _ = _; rw [HB.out, ← hT2.out, if_pos ⟨d1, d2⟩]
                  clear HB hT2
                  go_wp2
                  go_round
                  case rel => exact ⟨i0 + 1 + 1, by go_num, by omega, by rw [hN.out], trivial⟩
                  case measure => first | (simp [intOf]; done) | (simp [intOf]; omega)
                · have hN : Hid (bst f own L (i0 + 1 + 1) = B) := by show _ = _; rw [HB.out, if_neg (fun hc => d2 hc.2)]
                  clear HB hT2
                  go_wp2
                  go_round
                  case rel => exact ⟨i0 + 1 + 1, by go_num, by omega, by rw [hN.out], trivial⟩
                  case measure => first | (simp [intOf]; done) | (simp [intOf]; omega)
              · have hN : Hid (bst f own L (i0 + 1 + 1) = B) := by show _ = _; rw [HB.out, ← hT2.out, if_neg (fun hc => d1 hc.1)]
                clear HB hT2
                go_wp2
                go_round
                case rel => exact ⟨i0 + 1 + 1, by go_num, by omega, by rw [hN.out], trivial⟩
                case measure => first | (simp [intOf]; done) | (simp [intOf]; omega)
    · obtain rfl : j = n + 1 := by omega
      have hz : ((n + 1 : Nat) : Int) - 1 = (n : Int) := by omega
      rw [hz]
      go_wp2
      go_ret
      exact ⟨by rw [hr.out]; rfl, rfl⟩

end Go.Proofs.YtipkflaamncmbaaGreat
