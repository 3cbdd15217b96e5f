import Derived.Test.YtpkcoejjclmocaaCe
namespace Go.Proofs.Ytpkcoejjclmocaa
open Go.RowKit Go.Maps
set_option linter.unusedVariables false
set_option linter.unusedSimpArgs false

/-- One element in a new block. -/
theorem sl_box {α : Type} {Y : Lay α} (w : World) (x : α) (T : TypeId) : SlY Y (w.alloc (.cells (Y.cs x).toArray T)) (some ⟨w.heap.size, 0, none⟩) 1 1 [x] :=
  ⟨rfl, Nat.le_refl _, by unfold maxLen; omega, (fun e => by cases e), fun y hy => by
    cases hy
    refine .inr ⟨w.heap.size, 0, rfl, by simp, fun i z hz j u hu => ?_⟩
    match i, hz with
    | 0, hz =>
      simp at hz
      subst hz
      rw [Nat.zero_mul, Nat.zero_add]
      rw [World.cell?_alloc_at _ _ _ _ rfl, List.getElem?_toArray]
      exact hu
    | i + 1, hz => simp at hz⟩
def tbl (L : List En) (k : Int) : List Rw := if ckB L 0 k = 0 then tb L k.toNat 16 else []
theorem zrow (W : World) : (zeroValue 57).run Try.prog W = .ok zRw.val W := by kernel_rfl
theorem ckB_zero {L : List En} {f t : Int} (h : ckB L f t = 0) : lg L 256 = 0 ∧ 0 ≤ f ∧ t ≤ L.length ∧ f ≤ t := by
  unfold ckB at h
  by_cases h1 : lg L 256 = 0
  · simp [h1] at h
    exact ⟨h1, by omega, by omega, by omega⟩
  · simp [h1] at h
set_option maxRecDepth 100000 in
set_option maxHeartbeats 1000000 in
theorem table_any (L : List En) (a : Option Addr) (c : Nat) (k : Int) (w : World) (h : SlY yE w a L.length c L) (hf : ∀ e ∈ L, e.fits) :
    Calls Try.prog 9 #[.slice a L.length c, .int .i64 k] w fun e w' => ∃ v, e = .returned (.tuple #[v, .int .i64 (ckB L 0 k)]) ∧ OwnY yR w.heap.size w' v (tbl L k) ∧ Below w.heap.size w w' := by
  have ck := check2_any L a c 0 k w h hf
  have hmx := h.max
  have hcp := h.cap
  unfold maxLen at hmx
  have H := hide h
  have HF := hide hf
  clear h hf
  by_cases hx : ckB L 0 k = 0
  · obtain ⟨h1, _, h3, h4⟩ := ckB_zero hx
    have hT : Hid (tbl L k = tb L k.toNat 16) := by show _ = _; simp [tbl, hx]
    have hl : L.length ≤ 256 := by have := (lg_zero h1).1; omega
    rw [hx] at ck ⊢
    obtain ⟨n, rfl⟩ : ∃ n : Nat, k = (n : Int) := ⟨k.toNat, by omega⟩
    rw [Int.toNat_natCast] at hT
    have hn : n ≤ L.length := by omega
    clear hx h1 h3 h4
    have HS := hide (tb_succ L n)
    have HLN := hide (tb_length_le L n)
    go_enter Try.func9, Try.ntmps9
    go_wp2_with (first
      | (go_at_call 27; refine ck.mono ?_; rintro e w1 ⟨rfl, b1⟩; have cl := last_any L a c n w1 (H.out.later b1) HF.out hl hn)
      | (go_at_call 28; refine cl.mono ?_; rintro e w2 ⟨rfl, m2, b2⟩; obtain ⟨m, hm, hlen⟩ := m2.len Try.underlying76; clear cl)
      | (at_make; go_must (refine makeY0 kR _ rfl (.const (.int .i64 0)) (.tmp 22) rfl m rfl rfl (by unfold maxLen; omega) (by show m * 64 ≤ _; omega) ?_; intro w3 o3 b3)))
    have hz1 := b1.size
    have hz2 := b2.size
    have hz3 := b3.size
    have hmn : w1.heap.size ≠ w2.heap.size := by have := m2.lt; omega
    have O3 := hide (o3.low (show w.heap.size ≤ w2.heap.size by omega))
    have M3 := hide (m2.later b3)
    have B3 := hide (b1.trans ((b2.mono hz1).trans (b3.mono (by omega))))
    have HG := hide (show w.heap.size ≤ w1.heap.size from hz1)
    generalize w1.heap.size = g1 at *
    generalize w2.heap.size = g2 at *
    clear o3 m2 b1 b2 b3 hlen ck hz2 hz3
    go_wp2
    go_loopw [24, 8] (fun i v wr => ∃ j : Nat, i = .int .i64 (j : Int) ∧ j ≤ 16 ∧ OwnY yR w.heap.size wr v (tb L n j) ∧ MapF wr g1 L.length (lF (rws L n)) ∧ Below w.heap.size w wr) (fun i _ _ => 16 - (intOf i).toNat)
    case atStart => exact ⟨0, rfl, by omega, O3.out, M3.out, B3.out⟩
    case round =>
      obtain ⟨j, rfl, hj, oT, hm, hb⟩ := hrel
      have hsz := hb.size
      have hmb := hm.lt
      by_cases hlt : j < 16
      · have hlk := hm.look true Try.underlying76 (zrow _) (s := (j : Int)) (wf_i64 (by omega))
        have hs := HS.out j
        have hln := HLN.out j
        unfold lF at hlk
        cases hlo : lo (rws L n) (j : Int) with
        | none =>
          rw [hlo] at hlk hs
          simp only [Option.map_none, Option.getD_none, Option.isSome_none, if_true, zRw, Rw.val, zR] at hlk hs
          have TS := hide hs
          have OT := hide oT
          have MH := hide hm
          have bA := hide ((Below.refl _ wr).alloc (Nat.le_refl _) (.cells #[.int .i64 0, .int .i64 0, .int .i64 0, .bool false, .int .i64 0, .int .i64 0, .string ByteArray.empty] 57))
          clear oT hm hlo hs
          go_wp2
          go_round
          case rel => exact ⟨j + 1, by go_num, by omega, by rw [TS.out]; exact OT.out.grow bA.out, MH.out.later bA.out, hb.trans (bA.out.mono hsz)⟩
          case measure => simp [intOf]; omega
        | some r =>
          rw [hlo] at hlk hs
          obtain ⟨C, N, P, d, s0, s1, s2⟩ := r
          simp only [Option.map_some, Option.getD_some, Option.isSome_some, if_true, Rw.val] at hlk hs
          have TS := hide hs
          have OT := hide oT
          have MH := hide hm
          have bA := hide ((Below.refl _ wr).alloc (Nat.le_refl _) (.cells #[.int .i64 C, .int .i64 N, .int .i64 P, .bool d, .int .i64 s0, .int .i64 s1, .string s2] 57))
          clear oT hm hlo hs
          go_wp2_with (at_builtin; go_must (refine appY kR _ rfl (.tmp 34) (.tmp 36) rfl w.heap.size (tb L n j) _ rfl (some ⟨wr.heap.size + 1, 0, none⟩) 1 1 rfl [⟨C, N, P, d, s0, s1, s2⟩] ?ys ((OT.out.alloc _).alloc _) (by simp; omega) (by unfold maxLen; omega) (by show (_ + 1) * 64 ≤ _; omega) ?yk))
          case ys =>
            have := sl_box (Y := yR) (wr.alloc (.cells #[.int .i64 C, .int .i64 N, .int .i64 P, .bool d, .int .i64 s0, .int .i64 s1, .string s2] 57)) ⟨C, N, P, d, s0, s1, s2⟩ 57
            rw [World.size_alloc] at this
            exact this
          case yk =>
            intro v5 w5 o5 g5 _
            have oA := ((OT.out.alloc (.cells #[.int .i64 C, .int .i64 N, .int .i64 P, .bool d, .int .i64 s0, .int .i64 s1, .string s2] 57)).alloc (.cells #[.int .i64 C, .int .i64 N, .int .i64 P, .bool d, .int .i64 s0, .int .i64 s1, .string s2] 57))
            have b5 := hide (oA.grown (hb.trans ((bA.out.mono hsz).trans ((Below.refl _ _).alloc (by simp; omega) _))) g5 (by simp; omega))
            have mA := ((MH.out.later bA.out).later ((Below.refl _ _).alloc (Nat.le_refl _) (.cells #[.int .i64 C, .int .i64 N, .int .i64 P, .bool d, .int .i64 s0, .int .i64 s1, .string s2] 57)))
            have m5 := hide (mA.grown g5 (mA.ne oA))
            have O5 := hide o5
            clear o5 g5 oA mA
            go_wp2
            go_round
            case rel => exact ⟨j + 1, by go_num, by omega, by rw [TS.out]; exact O5.out, m5.out, b5.out⟩
            case measure => simp [intOf]; omega
      · obtain rfl : j = 16 := by omega
        have OT := hide oT
        clear oT hm
        go_wp2
        go_ret2
        exact ⟨_, rfl, by rw [hT.out]; exact OT.out, hb⟩
  · have hT : Hid (tbl L k = []) := by show _ = _; simp [tbl, hx]
    generalize ckB L 0 k = x at *
    go_enter Try.func9, Try.ntmps9
    go_wp2_with (go_at_call 27; refine ck.mono ?_; rintro e w1 ⟨rfl, b1⟩)
    go_ret2
    exact ⟨_, rfl, by rw [hT.out]; exact OwnY.nil _ _ _, b1⟩

end Go.Proofs.Ytpkcoejjclmocaa
