import Derived.Test.YtpkcoejjclmocaaCk
namespace Go.Proofs.Ytpkcoejjclmocaa
open Go.RowKit Go.Maps
set_option linter.unusedVariables false
set_option linter.unusedSimpArgs false

theorem lo_place {L : List En} {n : Nat} {s : Int} {i : Nat} (h : lp L s = i + 1) : ∃ e, L[i]? = some e ∧ lo (rws L n) s = some (rwA (rsL L) n i e) := by
  have hle := lpJ_le L s L.length
  have hi : i < L.length := by unfold lp at h; omega
  refine ⟨_, List.getElem?_eq_getElem hi, ?_⟩
  rw [lo_all, h]
  simp only [Nat.add_eq_zero_iff, Nat.one_ne_zero, and_false, if_false, Nat.add_sub_cancel]
  exact rws_get n (List.getElem?_eq_getElem hi)
theorem lo_noplace {L : List En} {n : Nat} {s : Int} (h : lp L s = 0) : lo (rws L n) s = none := by rw [lo_all, h]; rfl
theorem rowD_val (R : List Rs) (i : Nat) (d : Bool) (e : En) : (rowD R i d e).val = .agg #[.int .i64 e.c, .int .i64 e.n, .int .i64 ((i : Int) + 1), .bool d, .int .i64 (if d then R.getD i zR else zR).1, .int .i64 (if d then R.getD i zR else zR).2.1, .string (if d then R.getD i zR else zR).2.2] := rfl
set_option maxRecDepth 100000 in
set_option maxHeartbeats 1000000 in
theorem reftable_any (L : List En) (a : Option Addr) (c : Nat) (k : Int) (w : World) (h : SlY yE w a L.length c L) (hf : ∀ e ∈ L, e.fits) :
    Calls Try.prog 11 #[.slice a L.length c, .int .i64 k] w fun e w' => ∃ v, e = .returned (.tuple #[v, .int .i64 (ckB L 0 k)]) ∧ OwnY yR w.heap.size w' v (tbl L k) ∧ Below w.heap.size w w' := by
  have ck := within_any L a c k w h hf
  have hmx := h.max
  have hcp := h.cap
  unfold maxLen at hmx
  have H := hide h
  have HF := hide hf
  clear h hf
  by_cases hx : ckB L 0 k = 0
  · obtain ⟨h1, _, h3, h4⟩ := ckB_zero hx
    have hT : Hid (tbl L k = tb L k.toNat 16) := by show _ = _; simp [tbl, hx]
    have hl : L.length ≤ 256 := by have := (lg_zero h1).1; omega
    rw [hx] at ck ⊢
    obtain ⟨n, rfl⟩ : ∃ n : Nat, k = (n : Int) := ⟨k.toNat, by omega⟩
    rw [Int.toNat_natCast] at hT
    have hn : n ≤ L.length := by omega
    clear hx h1 h3 h4
    have HS := hide (tb_succ L n)
    have HLN := hide (tb_length_le L n)
    go_enter Try.func11, Try.ntmps11
    go_wp2_with (go_at_call 29; refine ck.mono ?_; rintro e w1 ⟨rfl, b1⟩)
    go_loopw [8, 7] (fun i v wr => ∃ j : Nat, i = .int .i64 (j : Int) ∧ j ≤ 16 ∧ OwnY yR w.heap.size wr v (tb L n j) ∧ Below w.heap.size w wr) (fun i _ _ => 16 - (intOf i).toNat)
    case atStart => exact ⟨0, rfl, by omega, OwnY.nil _ _ _, b1⟩
    case round =>
      obtain ⟨j, rfl, hj, oT, hb⟩ := hrel
      have hsz := hb.size
      by_cases hlt : j < 16
      · have hs := HS.out j
        have hln := HLN.out j
        have cl := reflast_any L a c (j : Int) wr (H.out.later hb)
        cases hlp : lp L (j : Int) with
        | zero =>
          rw [lo_noplace hlp] at hs
          rw [hlp] at cl
          have TS := hide hs
          have OT := hide oT
          clear oT hs hlp
          go_wp2_with (go_at_call 30; refine cl.mono ?_; rintro e w2 ⟨rfl, hw2⟩; subst hw2)
          go_round
          case rel => exact ⟨j + 1, by go_num, by omega, by rw [TS.out]; exact OT.out, hb⟩
          case measure => simp [intOf]; omega
        | succ i =>
          obtain ⟨e, he, hlo⟩ := lo_place (n := n) hlp
          rw [hlo] at hs
          rw [hlp, show (((i + 1 : Nat)) : Int) = (i : Int) + 1 by omega] at cl
          have hi := (List.getElem?_eq_some_iff.1 he).1
          have cr := refrow_any L a c i (decide (i < n)) e wr (H.out.later hb) HF.out hl he
          have hrv := rowD_eq (rsL L) n i e
          rw [hrv] at cr
          generalize rwA (rsL L) n i e = r at *
          obtain ⟨C, N, P, d, s0, s1, s2⟩ := r
          dsimp only [Rw.val] at cr hs
          have TS := hide hs
          have OT := hide oT
          have hdd : decide ((i : Int) + 1 ≤ (n : Int)) = decide (i < n) := by rw [decide_eq_decide]; omega
          clear oT hs hlp hlo he hrv
          have SB := fun (W : World) => hide (sl_box (Y := yR) W ⟨C, N, P, d, s0, s1, s2⟩ 57)
          by_cases hin : i < n
          all_goals
            simp only [hin, decide_true, decide_false] at cr hdd
            go_wp2_with (first
              | (go_at_call 30; refine cl.mono ?_; rintro e w2 ⟨rfl, hw2⟩; subst hw2)
              | (go_at_call 31; refine cr.mono ?_; rintro e w3 ⟨rfl, b3⟩; have hz3 := b3.size)
              | (at_builtin; go_must (refine appY kR _ rfl (.tmp 25) (.tmp 32) rfl w.heap.size (tb L n j) _ rfl (some ⟨w3.heap.size, 0, none⟩) 1 1 rfl [⟨C, N, P, d, s0, s1, s2⟩] (SB w3).out ((OT.out.grow b3).alloc _) (by simp; omega) (by unfold maxLen; omega) (by show (_ + 1) * 64 ≤ _; omega) ?_; intro v5 w5 o5 g5 _; have oA := ((OT.out.grow b3).alloc (.cells #[.int .i64 C, .int .i64 N, .int .i64 P, .bool d, .int .i64 s0, .int .i64 s1, .string s2] 57)); have b5 := hide (oA.grown (hb.trans ((b3.mono hsz).trans ((Below.refl _ _).alloc (by omega) _))) g5 (by simp; omega)); have O5 := hide o5; clear o5 g5 oA)))
            go_round
            case rel => exact ⟨j + 1, by go_num, by omega, by rw [TS.out]; exact O5.out, b5.out⟩
            case measure => simp [intOf]; omega
      · obtain rfl : j = 16 := by omega
        have OT := hide oT
        clear oT
        go_wp2
        go_ret2
        exact ⟨_, rfl, by rw [hT.out]; exact OT.out, hb⟩
  · have hT : Hid (tbl L k = []) := by show _ = _; simp [tbl, hx]
    generalize ckB L 0 k = x at *
    go_enter Try.func11, Try.ntmps11
    go_wp2_with (go_at_call 29; refine ck.mono ?_; rintro e w1 ⟨rfl, b1⟩)
    go_ret2
    exact ⟨_, rfl, by rw [hT.out]; exact OwnY.nil _ _ _, b1⟩

end Go.Proofs.Ytpkcoejjclmocaa
