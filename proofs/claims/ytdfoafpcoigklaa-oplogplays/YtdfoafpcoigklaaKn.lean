import Derived.Test.YtdfoafpcoigklaaKl
namespace Go.Proofs.Ytdfoafpcoigklaa
open Go.RowKit Go.Maps
open Classical
set_option linter.unusedVariables false
set_option linter.unusedSimpArgs false

set_option maxRecDepth 100000 in
set_option maxHeartbeats 1000000 in
theorem refcom6_any (A B : List En) (a b : Option Addr) (n1 n2 c1 c2 : Nat) (w : World) (h1 : SlY yE w a n1 c1 A) (h2 : SlY yE w b n2 c2 B) :
    Calls Try.prog 31 #[.slice a n1 c1, .slice b n2 c2] w fun e w' => e = .returned (.int .i64 (cmn A B)) ∧ ∃ n, w' = w.drewN n := by
  have hp1 := h1.cap
  have hx1 := h1.max
  have hp2 := h2.cap
  have hx2 := h2.max
  unfold maxLen at hx1 hx2
  have LA := hide h1.len
  have LB := hide h2.len
  have H1 := hide h1
  have H2 := hide h2
  clear h1 h2
  go_enter Try.func31, Try.ntmps31
  go_wp2
  go_loopw [5] (fun i wr => ∃ k q : Nat, i = .int .i64 (k : Int) ∧ k ≤ n1 ∧ k ≤ n2 ∧ Hid (cmn A B = k + cmn (A.drop k) (B.drop k)) ∧ wr = w.drewN q) (fun i _ => n1 - (intOf i).toNat)
  case atStart => exact ⟨0, 0, rfl, Nat.zero_le _, Nat.zero_le _, by show cmn A B = 0 + _; simp, rfl⟩
  case round =>
    obtain ⟨k, q, rfl, hk1, hk2, hE, rfl⟩ := hrel
    by_cases hlt : k < n1
    · by_cases hlt2 : k < n2
      · have hka : k < A.length := by rw [LA.out]; exact hlt
        have hkb : k < B.length := by rw [LB.out]; exact hlt2
        have ha := List.getElem?_eq_getElem hka
        have hb := List.getElem?_eq_getElem hkb
        have hst := cmn_at ha hb
        obtain ⟨q1, o1, rfl, _, e0, e1, e2, e3, e4⟩ := H1.out.en ha
        obtain ⟨q2, o2, rfl, _, f0, f1, f2, f3, f4⟩ := H2.out.en hb
        generalize A[k] = x at *
        generalize B[k] = y at *
        obtain ⟨xc, xn, ⟨ok, os, ov⟩⟩ := x
        obtain ⟨yc, yn, ⟨pk, ps, pv⟩⟩ := y
        dsimp only at hst e0 e1 e2 e3 e4 f0 f1 f2 f3 f4
        have qe := fun W => eqlE xc xn ok os ov yc yn pk ps pv W
        have HST := hide hst
        clear hst ha hb
        generalize hxy : decide ((⟨xc, xn, ⟨ok, os, ov⟩⟩ : En) = ⟨yc, yn, ⟨pk, ps, pv⟩⟩) = t at *
        go_wp2
        go_quiet (fail)
        cases t with
        | true =>
          have hxe := of_decide_eq_true hxy
          have hE2 : Hid (cmn A B = (k + 1) + cmn (A.drop (k + 1)) (B.drop (k + 1))) := by
            show _ = _
            rw [hE.out, HST.out, if_pos hxe]
            omega
          clear hxe
          go_wp2
          go_round
          case rel => exact ⟨k + 1, q + nq, by go_num, by omega, by omega, hE2, by simp⟩
          case measure => simp [intOf]; omega
        | false =>
          have hxe := of_decide_eq_false hxy
          have hE2 : Hid (cmn A B = k) := by
            show _ = _
            rw [hE.out, HST.out, if_neg hxe]
            omega
          clear hxe
          go_wp2
          go_ret
          exact ⟨ret_int (by rw [hE2.out]), _, by simp; rfl⟩
      · have hE2 : Hid (cmn A B = k) := by
          show _ = _
          rw [hE.out, cmn_end (.inr (by rw [LB.out]; omega))]
          omega
        have hd2 : decide ((k : Int) < (n2 : Int)) = false := by simp; omega
        go_wp2
        go_quiet (fail)
        go_wp2
        go_ret
        exact ⟨ret_int (by rw [hE2.out]), _, by simp; rfl⟩
    · have hE2 : Hid (cmn A B = k) := by
        show _ = _
        rw [hE.out, cmn_end (.inl (by rw [LA.out]; omega))]
        omega
      have hd2 : decide ((k : Int) < (n1 : Int)) = false := by simp; omega
      go_wp2
      go_quiet (fail)
      go_wp2
      go_ret
      exact ⟨ret_int (by rw [hE2.out]), _, by simp; rfl⟩
theorem refbeg6_any (A B : List En) (a b : Option Addr) (n1 n2 c1 c2 : Nat) (w : World) (h1 : SlY yE w a n1 c1 A) (h2 : SlY yE w b n2 c2 B) :
    Calls Try.prog 33 #[.slice a n1 c1, .slice b n2 c2] w fun e w' => e = .returned (.bool (decide (cmn A B = A.length))) ∧ ∃ n, w' = w.drewN n := by
  have cc := refcom6_any A B a b n1 n2 c1 c2 w h1 h2
  have HL := hide h1.len
  clear h1 h2
  generalize cmn A B = x at *
  rw [HL.out]
  go_enter Try.func33, Try.ntmps33
  go_wp2_with (go_at_call 31; refine cc.mono ?_; rintro e w1 ⟨rfl, q1, rfl⟩)
  go_ret
  refine ⟨?_, q1, rfl⟩
  by_cases h : x = n1
  · subst h; simp
  · have h2 : ¬ ((x : Int) = (n1 : Int)) := by omega
    simp [h, h2]
theorem refagr6_any (A B : List En) (a b : Option Addr) (n1 n2 c1 c2 : Nat) (m : Int) (w : World) (h1 : SlY yE w a n1 c1 A) (h2 : SlY yE w b n2 c2 B) :
    Calls Try.prog 35 #[.slice a n1 c1, .slice b n2 c2, .int .i64 m] w fun e w' => e = .returned (.bool (decide (0 ≤ m ∧ m ≤ cmn A B))) ∧ ∃ n, w' = w.drewN n := by
  have cc := refcom6_any A B a b n1 n2 c1 c2 w h1 h2
  clear h1 h2
  generalize cmn A B = x at *
  by_cases hm : 0 ≤ m
  · go_enter Try.func35, Try.ntmps35
    go_wp2_with (go_at_call 31; refine cc.mono ?_; rintro e w1 ⟨rfl, q1, rfl⟩)
    go_ret
    exact ⟨by simp [hm], q1, rfl⟩
  · have hd : decide (0 ≤ m) = false := by simpa using hm
    go_enter Try.func35, Try.ntmps35
    go_wp2
    go_ret
    exact ⟨by simp [hm], 0, rfl⟩
set_option maxRecDepth 100000 in
set_option maxHeartbeats 1000000 in
theorem reffind6_any (L : List En) (a : Option Addr) (n c : Nat) (cl nu : Int) (w : World) (h : SlY yE w a n c L) :
    Calls Try.prog 37 #[.slice a n c, .int .i64 cl, .int .i64 nu] w fun e w' => e = .returned (.int .i64 (fd L cl nu)) ∧ w' = w := by
  have hmx := h.max
  have hcp := h.cap
  have HN := hide h.len
  unfold maxLen at hmx
  have H := hide h
  clear h
  go_enter Try.func37, Try.ntmps37
  go_wp2
  go_loopw [7] (fun i wr => ∃ k : Nat, i = .int .i64 (k : Int) ∧ k ≤ n ∧ Hid (fd L cl nu = fdA cl nu (L.drop k) k) ∧ wr = w) (fun i _ => n - (intOf i).toNat)
  case atStart => exact ⟨0, rfl, Nat.zero_le _, hide rfl, rfl⟩
  case round =>
    obtain ⟨k, rfl, hk, hE, e1⟩ := hrel
    have e1 := e1.symm
    subst e1
    by_cases hlt : k < n
    · have hkl : k < L.length := by rw [HN.out]; exact hlt
      have hg := List.getElem?_eq_getElem hkl
      have hst := fdA_at cl nu hg
      obtain ⟨q1, o1, rfl, _, e0, e1, _, _, _⟩ := H.out.en hg
      generalize L[k] = x at *
      obtain ⟨xc, xn, op⟩ := x
      dsimp only at hst e0 e1
      have HST := hide hst
      clear hst hg
      by_cases hc : xc = cl
      · by_cases hn : xn = nu
        · subst hc hn
          have hE2 : Hid (fd L xc xn = k + 1) := by show _ = _; rw [hE.out, HST.out]; simp
          go_wp2
          go_ret
          exact ⟨ret_int (by rw [hE2.out]; simp), rfl⟩
        · have hE2 : Hid (fd L cl nu = fdA cl nu (L.drop (k + 1)) (k + 1)) := by show _ = _; rw [hE.out, HST.out]; simp [hn]
          have dn : decide (xn = nu) = false := by simpa using hn
          subst hc
          go_wp2
          go_round
          case rel => exact ⟨k + 1, by go_num, by omega, hE2, trivial⟩
          case measure => simp [intOf]; omega
      · have hE2 : Hid (fd L cl nu = fdA cl nu (L.drop (k + 1)) (k + 1)) := by show _ = _; rw [hE.out, HST.out]; simp [hc]
        have dn : decide (xc = cl) = false := by simpa using hc
        go_wp2
        go_round
        case rel => exact ⟨k + 1, by go_num, by omega, hE2, trivial⟩
        case measure => simp [intOf]; omega
    · have hE2 : Hid (fd L cl nu = 0) := by
        show _ = _
        rw [hE.out, List.drop_of_length_le (by rw [HN.out]; omega)]
        rfl
      go_wp2
      go_ret
      exact ⟨ret_int (by rw [hE2.out]; rfl), rfl⟩
set_option maxRecDepth 100000 in
set_option maxHeartbeats 1000000 in
theorem reflast6_any (L : List En) (a : Option Addr) (n c : Nat) (cl : Int) (w : World) (h : SlY yE w a n c L) :
    Calls Try.prog 39 #[.slice a n c, .int .i64 cl] w fun e w' => e = .returned (.int .i64 (gm L cl)) ∧ w' = w := by
  have hmx := h.max
  have hcp := h.cap
  have HN := hide h.len
  unfold maxLen at hmx
  have H := hide h
  clear h
  go_enter Try.func39, Try.ntmps39
  go_wp2
  go_loopw [6, 5] (fun i g wr => ∃ k : Nat, i = .int .i64 (k : Int) ∧ k ≤ n ∧ g = .int .i64 (gm (L.take k) cl) ∧ wr = w) (fun i _ _ => n - (intOf i).toNat)
  case atStart => exact ⟨0, rfl, Nat.zero_le _, rfl, rfl⟩
  case round =>
    obtain ⟨k, rfl, hk, rfl, e1⟩ := hrel
    have e1 := e1.symm
    subst e1
    by_cases hlt : k < n
    · have hkl : k < L.length := by rw [HN.out]; exact hlt
      have hg := List.getElem?_eq_getElem hkl
      have hst := gm_take cl hg
      obtain ⟨q1, o1, rfl, _, e0, e1, _, _, _⟩ := H.out.en hg
      generalize L[k] = x at *
      obtain ⟨xc, xn, op⟩ := x
      dsimp only at hst e0 e1
      have HST := hide hst
      clear hst hg
      generalize gm (L.take k) cl = G at *
      by_cases hc : xc = cl
      · by_cases hn : G < xn
        · have hE2 : Hid (xn = gm (L.take (k + 1)) cl) := by show _ = _; rw [HST.out]; simp [hc]; omega
          subst hc
          go_wp2
          go_round
          case rel => exact ⟨k + 1, by go_num, by omega, by rw [← hE2.out], trivial⟩
          case measure => simp [intOf]; omega
        · have hE2 : Hid (G = gm (L.take (k + 1)) cl) := by show _ = _; rw [HST.out]; simp [hc]; omega
          have dn : decide (G < xn) = false := by simpa using hn
          subst hc
          go_wp2
          go_round
          case rel => exact ⟨k + 1, by go_num, by omega, by rw [← hE2.out], trivial⟩
          case measure => simp [intOf]; omega
      · have hE2 : Hid (G = gm (L.take (k + 1)) cl) := by show _ = _; rw [HST.out]; simp [hc]
        have dn : decide (xc = cl) = false := by simpa using hc
        go_wp2
        go_round
        case rel => exact ⟨k + 1, by go_num, by omega, by rw [← hE2.out], trivial⟩
        case measure => simp [intOf]; omega
    · obtain rfl : k = n := by omega
      have hE2 : Hid (gm (L.take k) cl = gm L cl) := by show _ = _; rw [List.take_of_length_le (by rw [HN.out]; exact Nat.le_refl _)]
      go_wp2
      go_ret
      exact ⟨ret_int hE2.out, rfl⟩

end Go.Proofs.Ytdfoafpcoigklaa
