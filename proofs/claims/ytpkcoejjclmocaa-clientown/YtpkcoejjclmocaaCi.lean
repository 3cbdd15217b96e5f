import Derived.Test.YtpkcoejjclmocaaCh
namespace Go.Proofs.Ytpkcoejjclmocaa
open Go.RowKit Go.Maps
set_option linter.unusedVariables false
set_option linter.unusedSimpArgs false

set_option maxRecDepth 100000 in
theorem refentry_any (C N k s : Int) (v : ByteArray) (hf : (⟨k, s, v⟩ : Opn).fits) (w : World) :
    Calls Try.prog 41 #[.agg #[.int .i64 C, .int .i64 N, .int .i64 k, .int .i64 s, .string v]] w fun e w' => e = .returned (.int .i64 (ckE ⟨C, N, ⟨k, s, v⟩⟩)) ∧ Below w.heap.size w w' := by
  have cc := fun W => refcheck k s v hf W
  have bA := (Below.refl w.heap.size w).alloc (Nat.le_refl _) (.cells #[.int .i64 C, .int .i64 N, .int .i64 k, .int .i64 s, .string v] 61)
  by_cases h1 : C < 0
  · have hE : Hid (ckE ⟨C, N, ⟨k, s, v⟩⟩ = 62) := by show _ = _; simp [ckE, h1]
    have d1 : decide (C < 0) = true := by simpa using h1
    go_enter Try.func41, Try.ntmps41
    go_wp2
    go_ret
    exact ⟨ret_int hE.out.symm, bA⟩
  · by_cases h2 : 16 ≤ C
    · have hE : Hid (ckE ⟨C, N, ⟨k, s, v⟩⟩ = 62) := by show _ = _; simp [ckE, h2]
      go_enter Try.func41, Try.ntmps41
      go_wp2
      go_ret
      exact ⟨ret_int hE.out.symm, bA⟩
    · by_cases h3 : N < 1
      · have hE : Hid (ckE ⟨C, N, ⟨k, s, v⟩⟩ = 63) := by show _ = _; simp [ckE, h1, h2, h3]
        go_enter Try.func41, Try.ntmps41
        go_wp2
        go_ret
        exact ⟨ret_int hE.out.symm, bA⟩
      · have hE : Hid (ckE ⟨C, N, ⟨k, s, v⟩⟩ = ck k s v) := by show _ = _; simp [ckE, h1, h2, h3]
        generalize ck k s v = x at *
        go_enter Try.func41, Try.ntmps41
        go_wp2_with (go_at_call 61; refine (cc _).mono ?_; rintro e w2 ⟨rfl, b2⟩)
        go_ret
        exact ⟨ret_int hE.out.symm, bA.trans (b2.mono (by simp))⟩
theorem tw_take_step {L : List En} {e p : En} {j : Nat} (h : L[j]? = some p) : tw (L.take (j + 1)) e = (tw (L.take j) e || (decide (p.c = e.c) && decide (e.n ≤ p.n))) := by
  rw [List.take_add_one, h]
  exact tw_snoc _ _ _
theorem tw_mono {L : List En} {e : En} {j i : Nat} (hji : j ≤ i) (h : tw (L.take j) e = true) : tw (L.take i) e = true := by
  unfold tw at h ⊢
  rw [List.any_eq_true] at h ⊢
  obtain ⟨x, hx, h2⟩ := h
  exact ⟨x, (List.take_subset_take_left L hji) hx, h2⟩
set_option maxRecDepth 100000 in
set_option maxHeartbeats 1000000 in
theorem reflog_any (L : List En) (a : Option Addr) (c : Nat) (room : Int) (w : World) (h : SlY yE w a L.length c L) (hf : ∀ e ∈ L, e.fits) :
    Calls Try.prog 20 #[.slice a L.length c, .int .i64 room] w fun e w' => e = .returned (.int .i64 (lg L room)) ∧ Below w.heap.size w w' := by
  have hmx := h.max
  have hcp := h.cap
  unfold maxLen at hmx
  have H := hide h
  have HF := hide hf
  clear h hf
  by_cases hl : room < (L.length : Int)
  · have hE : Hid (lg L room = 60) := by show _ = _; simp [lg, hl]
    go_enter Try.func20, Try.ntmps20
    go_wp2
    go_ret
    exact ⟨ret_int hE.out.symm, Below.refl _ _⟩
  · have HL : Hid (lg L room = lgA (L.take 0) (L.drop 0)) := by show _ = _; simp [lg, hl]
    go_enter Try.func20, Try.ntmps20
    go_wp2
    go_loopw [5] (fun i wr => ∃ j : Nat, i = .int .i64 (j : Int) ∧ j ≤ L.length ∧ Hid (lg L room = lgA (L.take j) (L.drop j)) ∧ Below w.heap.size w wr) (fun i _ => L.length - (intOf i).toNat)
    case atStart => exact ⟨0, rfl, Nat.zero_le _, HL, Below.refl _ _⟩
    case round =>
      obtain ⟨j, rfl, hj, hL, hb⟩ := hrel
      by_cases hlt : j < L.length
      · have hg : L[j]? = some L[j] := List.getElem?_eq_getElem hlt
        have hat := lgA_at hg
        have hfj := (HF.out L[j] (List.getElem_mem hlt)).ow
        obtain ⟨q, o, ea, hq, c0, c1, c2, c3, c4⟩ := (H.out.later hb).en hg
        have HE := hide (fun W (hb : Below w.heap.size w W) => (H.out.later hb).en hg)
        generalize hee : L[j] = e at *
        subst ea
        have ce := fun W => refentry_any e.c e.n e.o.k e.o.s e.o.v hfj W
        have hA := hide hat
        clear hat
        have hsz := hb.size
        have her : er (L.take j) e = if ckE e ≠ 0 then ckE e else if tw (L.take j) e then 64 else 0 := rfl
        have hER := hide her
        clear her
        have hx0 : ckE ⟨e.c, e.n, ⟨e.o.k, e.o.s, e.o.v⟩⟩ = ckE e := rfl
        rw [hx0] at ce
        generalize ckE e = x at *
        by_cases hx : x = 0
        · subst hx
          go_wp2_with (go_at_call 41; refine (ce _).mono ?_; rintro r w1 ⟨rfl, b1⟩)
          have hb1 := hb.trans (b1.mono hsz)
          clear c0 c1 c2 c3 c4
          go_loopw [7] (fun i wr => ∃ m : Nat, i = .int .i64 (m : Int) ∧ m ≤ j ∧ Hid (tw (L.take m) e = false) ∧ Below w.heap.size w wr) (fun i _ => j - (intOf i).toNat)
          case atStart => exact ⟨0, rfl, Nat.zero_le _, by show tw _ _ = _; simp [tw], hb1⟩
          case round =>
            obtain ⟨m, rfl, hm, htw, hbm⟩ := hrel
            by_cases hlm : m < j
            · have hgm : L[m]? = some L[m] := List.getElem?_eq_getElem (by omega)
              have hst := tw_take_step (e := e) hgm
              obtain ⟨q2, o2, ea2, hq2, d0, d1, d2, d3, d4⟩ := HE.out wr hbm
              cases ea2
              obtain ⟨q3, o3, ea3, hq3, f0, f1, f2, f3, f4⟩ := (H.out.later hbm).en hgm
              cases ea3
              generalize hpp : L[m] = p at *
              rw [htw.out] at hst
              have hST := hide hst
              clear hst hpp hgm hg hee
              obtain ⟨Ce, Ne, oe⟩ := e
              obtain ⟨Cp, Np, op⟩ := p
              dsimp only at *
              by_cases hc : Cp = Ce
              · subst hc
                by_cases hn : Ne ≤ Np
                · have hE : Hid (lg L room = 64) := by
                    show _ = _
                    have ht := tw_mono (L := L) (show m + 1 ≤ j by omega) (hST.out.trans (by simp [hn]))
                    rw [hL.out, hA.out, hER.out, ht]
                    simp
                  go_wp2
                  go_quiet (fail)
                  go_wp2
                  go_ret
                  exact ⟨ret_int hE.out.symm, belN hbm nq⟩
                · have hT : Hid (tw (L.take (m + 1)) ⟨Cp, Ne, oe⟩ = false) := by show _ = _; rw [hST.out]; simp [hn]
                  have hn' : decide (Ne ≤ Np) = false := by simpa using hn
                  go_wp2
                  go_quiet (fail)
                  go_wp2
                  go_round
                  case rel => exact ⟨m + 1, by go_num, by omega, hT, belN hbm nq⟩
                  case measure => simp [intOf]; omega
              · have hT : Hid (tw (L.take (m + 1)) ⟨Ce, Ne, oe⟩ = false) := by show _ = _; rw [hST.out]; simp [hc]
                have hd : decide (Cp = Ce) = false := by simpa using hc
                have hd2 : (Cp == Ce) = false := by simpa using hc
                go_wp2
                go_quiet (fail)
                go_wp2
                go_round
                case rel => exact ⟨m + 1, by go_num, by omega, hT, belN hbm nq⟩
                case measure => simp [intOf]; omega
            · obtain rfl : m = j := by omega
              have hE : Hid (lg L room = lgA (L.take (m + 1)) (L.drop (m + 1))) := by
                show _ = _
                rw [hL.out, hA.out, hER.out, htw.out]
                simp
              go_wp2
              go_round
              case rel => exact ⟨m + 1, by go_num, by omega, hE, hbm⟩
              case measure => simp [intOf]; omega
        · have hE : Hid (lg L room = x) := by show _ = _; rw [hL.out, hA.out, hER.out]; simp [hx]
          go_wp2_with (go_at_call 41; refine (ce _).mono ?_; rintro r w1 ⟨rfl, b1⟩)
          go_ret
          exact ⟨ret_int hE.out.symm, hb.trans (b1.mono hsz)⟩
      · obtain rfl : j = L.length := by omega
        have hE := hL.out
        rw [lgA_end] at hE
        have hEh := hide hE
        clear hE
        go_wp2
        go_ret
        exact ⟨ret_int hEh.out.symm, hb⟩
/-- A log and a number of its places. -/
theorem within_any (L : List En) (a : Option Addr) (c : Nat) (t : Int) (w : World) (h : SlY yE w a L.length c L) (hf : ∀ e ∈ L, e.fits) :
    Calls Try.prog 29 #[.slice a L.length c, .int .i64 t] w fun e w' => e = .returned (.int .i64 (ckB L 0 t)) ∧ Below w.heap.size w w' := by
  have cl := reflog_any L a c 256 w h hf
  have hmx := h.max
  have hcp := h.cap
  unfold maxLen at hmx
  clear h hf
  have hU : Hid (ckB L 0 t = if lg L 256 ≠ 0 then lg L 256 else if t < 0 ∨ (L.length : Int) < t then 50 else 0) := by
    show _ = _
    unfold ckB
    by_cases h1 : lg L 256 = 0
    · simp only [h1, ne_eq, not_true, if_false]
      by_cases h2 : t < 0 ∨ (L.length : Int) < t
      · rw [if_pos h2, if_pos (by omega)]
      · rw [if_neg h2, if_neg (by omega)]
    · simp [h1]
  generalize ckB L 0 t = y at *
  generalize lg L 256 = x at *
  by_cases hx : x = 0
  · subst hx
    by_cases h1 : t < 0
    · have hE : Hid (y = 50) := by show _ = _; rw [hU.out]; simp [h1]
      have d1 : decide (t < 0) = true := by simpa using h1
      go_enter Try.func29, Try.ntmps29
      go_wp2_with (go_at_call 20; refine cl.mono ?_; rintro e w1 ⟨rfl, b1⟩)
      go_ret
      exact ⟨ret_int hE.out.symm, b1⟩
    · by_cases h2 : (L.length : Int) < t
      · have hE : Hid (y = 50) := by show _ = _; rw [hU.out]; simp [h2]
        go_enter Try.func29, Try.ntmps29
        go_wp2_with (go_at_call 20; refine cl.mono ?_; rintro e w1 ⟨rfl, b1⟩)
        go_ret
        exact ⟨ret_int hE.out.symm, b1⟩
      · have hE : Hid (y = 0) := by show _ = _; rw [hU.out]; simp only [ne_eq, not_true, if_false]; rw [if_neg (by omega)]
        go_enter Try.func29, Try.ntmps29
        go_wp2_with (go_at_call 20; refine cl.mono ?_; rintro e w1 ⟨rfl, b1⟩)
        go_ret
        exact ⟨ret_int hE.out.symm, b1⟩
  · have hE : Hid (y = x) := by show _ = _; rw [hU.out]; simp [hx]
    have hd : decide (x = 0) = false := by simpa using hx
    go_enter Try.func29, Try.ntmps29
    go_wp2_with (go_at_call 20; refine cl.mono ?_; rintro e w1 ⟨rfl, b1⟩)
    go_ret
    exact ⟨ret_int hE.out.symm, b1⟩

end Go.Proofs.Ytpkcoejjclmocaa
