import Derived.Test.YtnodhappbknclaaTt
namespace Go.Proofs.Ytnodhappbknclaa
open Go.RowKit
set_option linter.unusedVariables false

/-- What the reference's reading of a number comes to: q is what stands from the place p on. -/
def RnPost (p : Nat) (q : List Int) (w : World) (e : Ending) (w' : World) : Prop := e = .returned (.tuple #[.int .u64 (tnVal q), .int .i64 ((p + tnSize q : Nat) : Int), .int .i64 (tnErr q)]) ∧ ∃ k, w' = w.drewN k
theorem RnPost.mk_bad {p : Nat} {q : List Int} {w : World} {E : Int} (k : Nat) (h : tnErr q = E) (hE : E ≠ 0) : RnPost p q w (.returned (.tuple #[.int .u64 0, .int .i64 p, .int .i64 E])) (w.drewN k) := by
  obtain ⟨h1, h2⟩ := tn_bad (l := q) (by rw [h]; exact hE)
  exact ⟨ret3 (by rw [h1]; rfl) (by rw [h2]; rfl) h.symm, k, rfl⟩
theorem RnPost.mk_ok {p : Nat} {k : Int} {d : List Int} {w : World} (j : Nat) (h : tnErr (k :: d) = 0) {v s : Int} (hv : v = (M.rb (d.take k.toNat) : Nat)) (hs : s = ((p + (1 + k.toNat) : Nat) : Int)) : RnPost p (k :: d) w (.returned (.tuple #[.int .u64 v, .int .i64 s, .int .i64 0])) (w.drewN j) := by
  refine ⟨ret3 ?_ ?_ h.symm, j, rfl⟩
  · unfold tnVal; rw [if_pos h, hv]; rfl
  · unfold tnSize; rw [if_pos h, hs]; rfl

theorem rn_none (a : Option Addr) (n c : Nat) (w : World) (hn : n ≤ 9223372036854775807) :
    Calls Try.prog 53 #[.slice a n c, .int .i64 n] w fun e w' => RnPost n [] w e w' := by
  go_enter Try.func53, Try.ntmps53
  go_wp2
  go_ret3
  exact RnPost.mk_bad 0 rfl (by decide)

set_option maxRecDepth 100000 in
set_option maxHeartbeats 1000000 in
theorem rn_more (b o n c p m : Nat) (k : Int) (d : List Int) (w : World) (hn : d.length = m) (hpm : p + m + 1 = n) (hc : n ≤ c) (hmx : n ≤ 9223372036854775807) (h0 : w.cell? ⟨b, o + p, none⟩ = some (.int .u8 k)) (hd : ∀ i, i < m → w.cell? ⟨b, o + (p + 1 + i), none⟩ = some (.int .u8 (d.getD i 0))) (hb : ∀ z ∈ k :: d, 0 ≤ z ∧ z < 256) :
    Calls Try.prog 53 #[.slice (some ⟨b, o, none⟩) n c, .int .i64 p] w fun e w' => RnPost p (k :: d) w e w' := by
  obtain ⟨hk0, hk1⟩ := hb k (by simp)
  have hpn : (p : Int) < (n : Int) := by omega
  by_cases h8 : 8 < k
  · have H := hide (tnErr_form (d := d) h8)
    clear hd hb hn
    go_enter Try.func53, Try.ntmps53
    go_wp2
    go_ret3
    exact RnPost.mk_bad 0 H.out (by decide)
  · by_cases hs : (m : Int) < k
    · have H := hide (tnErr_short (d := d) h8 (by rw [hn]; exact hs))
      have hs2 : (n : Int) - (p : Int) - 1 < k := by omega
      clear hd hb hn
      go_enter Try.func53, Try.ntmps53
      go_wp2
      go_ret3
      exact RnPost.mk_bad 0 H.out (by decide)
    · have hs2 : ¬ ((n : Int) - (p : Int) - 1 < k) := by omega
      by_cases hz : 0 < k ∧ d.getD 0 0 = 0
      · have H := hide (tnErr_zero h8 (by rw [hn]; exact hs) hz.1 hz.2)
        have hd0 := hd 0 (by omega)
        rw [hz.2, Nat.add_zero] at hd0
        obtain ⟨hz1, _⟩ := hz
        clear hd hb hn
        go_enter Try.func53, Try.ntmps53
        go_wp2
        go_ret3
        exact RnPost.mk_bad 0 H.out (by decide)
      · have H := hide (tnErr_ok h8 (by rw [hn]; exact hs) hz)
        obtain ⟨K, rfl⟩ := Int.eq_ofNat_of_zero_le hk0
        have hbd : ∀ z ∈ d, 0 ≤ z ∧ z < 256 := fun z hz => hb z (by simp [hz])
        have hKn : K ≤ m := by omega
        have hlen := hide hn
        by_cases hp : 0 < K
        · have hd0 := hd 0 (by omega)
          rw [Nat.add_zero] at hd0
          have hzb : (d[0]?.getD 0 == 0) = false := by
            rw [beq_eq_false_iff_ne]
            intro h
            exact hz ⟨by omega, h⟩
          have HD := hide hd
          clear hb hn hz hd
          go_enter Try.func53, Try.ntmps53
          go_wp2
          go_loop [8, 9] (fun v i => ∃ j : Nat, j ≤ K ∧ i = .int .i64 j ∧ v = .int .u64 (M.rb (d.take j) : Nat)) (fun _ i => K - (intOf i).toNat)
          case atStart => exact ⟨0, Nat.zero_le _, rfl, rfl⟩
          case round =>
            obtain ⟨j, hj, rfl, rfl⟩ := hrel
            by_cases hlt : j < K
            · have hcell := HD.out j (by omega)
              have hdl : j < d.length := by rw [hlen.out]; omega
              have hz : 0 ≤ d.getD j 0 ∧ d.getD j 0 < 256 := hbd _ (by simp [List.getD, hdl])
              have hv : M.rb (d.take j) < 256 ^ 7 := Nat.lt_of_lt_of_le (M.rb_lt (d.take j) (fun z hz => hbd z (List.mem_of_mem_take hz))) (Nat.pow_le_pow_right (by omega) (by simp; omega))
              have HT := hide (M.rb_take d j hdl)
              have HV := hide hv
              have HZ := hide hz
              have hx1 : (p : Int) + 1 + (j : Int) < (n : Int) := by omega
              clear hdl hv
              go_wp2
              go_round
              case rel =>
                have hv := HV.out
                have hz := HZ.out
                refine ⟨j + 1, by omega, by go_num, int_eq ?_⟩
                rw [HT.out]
                have e : ∀ x : Int, IntKind.u64.wrap x = x % 18446744073709551616 := fun x => by simp [IntKind.wrap, IntKind.bits, IntKind.signed]
                rw [e, e, e, show d[j]?.getD 0 = d.getD j 0 from rfl]
                omega
              case measure => simp [intOf]; omega
            · obtain rfl : j = K := by omega
              go_wp2
              go_ret3
              exact RnPost.mk_ok 0 H.out rfl (by simp; omega)
        · obtain rfl : K = 0 := by omega
          clear hb hn hz hd
          go_enter Try.func53, Try.ntmps53
          go_wp2
          go_loop [8, 9] (fun v i => v = .int .u64 0 ∧ i = .int .i64 0) (fun _ _ => 0)
          case atStart => exact ⟨rfl, rfl⟩
          case round =>
            obtain ⟨rfl, rfl⟩ := hrel
            go_wp2
            go_ret3
            exact RnPost.mk_ok 0 H.out rfl (by simp)

theorem rn_any (a : Option Addr) (n c : Nat) (l : List Int) (p : Nat) (w : World) (h : Hs w a n c l) (hm : n ≤ 9223372036854775807) (hp : p ≤ n) :
    Calls Try.prog 53 #[.slice a n c, .int .i64 p] w fun e w' => RnPost p (l.drop p) w e w' := by
  by_cases hpn : p < n
  · have hlp : p < l.length := by rw [h.len]; exact hpn
    rw [List.drop_eq_getElem_cons hlp]
    cases a with
    | none => have := h.len; rw [(h.nil rfl).1] at this; simp at this; omega
    | some x =>
      obtain ⟨b, o, rfl⟩ := h.flat (by omega)
      have hr := h.row _ rfl
      refine rn_more b o n c p (n - p - 1) _ _ w (by rw [List.length_drop, h.len]; omega) (by omega) h.cap hm ?_ ?_ ?_
      · have := hr p hlp
        rw [Addr.add_lit] at this
        rw [this]
        simp [List.getD, hlp]
      · intro i hi
        have := hr (p + 1 + i) (by rw [h.len]; omega)
        rw [Addr.add_lit] at this
        rw [this]
        simp [List.getD]
      · intro z hz
        rw [← List.drop_eq_getElem_cons hlp] at hz
        exact h.byte z (List.mem_of_mem_drop hz)
  · obtain rfl : p = n := by omega
    rw [List.drop_eq_nil_of_le (by rw [h.len]; exact Nat.le_refl _)]
    exact rn_none a p c w hm
#print axioms rn_any

end Go.Proofs.Ytnodhappbknclaa
