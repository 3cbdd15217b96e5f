import Derived.Test.YtnodhappbknclabAd
namespace Go.Proofs.Ytnodhappbknclab
open Go.RowKit
set_option linter.unusedVariables false

/-- What a proof's frame tells of a slice of bytes that came in, with the form's own reach. -/
def CameS (w : World) (a : Option Addr) (len cap : Nat) (zs : List Int) : Prop :=
  (a = none ∧ len = 0 ∧ cap = 0 ∧ zs = []) ∨ ∃ x, a = some x ∧ len ≤ cap ∧ cap ≤ 140737488351232 ∧ zs.length = cap ∧ (∀ i, i < zs.length → w.cell? (x.add i) = some (.int .u8 (zs.getD i 0))) ∧ ∀ n ∈ zs, (Lit.int .u8 n).wf = true
theorem Hs.ofS {w : World} {a : Option Addr} {len cap : Nat} {zs : List Int} (h : CameS w a len cap zs) : Hs w a len cap (zs.take len) ∧ len ≤ 140737488351232 := by
  rcases h with h | ⟨x, h0, h1, h2, h3, h4, h5⟩
  · exact ⟨(Hs.of (Or.inl h)).1, by omega⟩
  · exact ⟨(Hs.of (Or.inr ⟨x, h0, h1, by unfold maxLen; omega, h3, h4, h5⟩)).1, by omega⟩
theorem Hs.cut {w : World} {a : Option Addr} {n c : Nat} {l : List Int} (h : Hs w a n c l) (k : Nat) (hk : k ≤ n) : Hs w a k c (l.take k) :=
  ⟨by rw [List.length_take, h.len]; omega, Nat.le_trans hk h.cap, fun x hx => (h.row x hx).take k, fun hx => by (have := h.nil hx; rw [this.1]; exact ⟨by simp, this.2⟩), fun z hz => h.byte z (List.mem_of_mem_take hz)⟩

theorem xor_val (a b : Int) (h0 : 0 ≤ a) (h1 : a < 256) (h2 : 0 ≤ b) (h3 : b < 256) : bits .xor .u8 a b = ((a.toNat ^^^ b.toNat : Nat) : Int) := u8_xor a b h0 h1 h2 h3
/-- The law's loop behind k rounds. -/
structure Two (w0 w : World) (vx vz : Value) (l m : List Int) (k : Nat) : Prop where
  x : Own w0.heap.size w vx (xorL l m k)
  z : Own w0.heap.size w vz (zeros k)
  ap : Apart vx vz
  bel : Below w0.heap.size w0 w

set_option maxHeartbeats 1000000 in
theorem adds_core (a0 : Option Addr) (n0 c0 : Nat) (l : List Int) (a1 : Option Addr) (n1 c1 : Nat) (m : List Int) (w : World) (h0 : Hs w a0 n0 c0 l) (h1 : Hs w a1 n1 c1 m) (r0 : n0 ≤ 140737488351232) (r1 : n1 ≤ 140737488351232) (hle : n0 ≤ n1) :
    Calls Try.prog 5 #[.slice a0 n0 c0, .slice a1 n1 c1] w fun e w' => e = .returned (.bool true) ∧ Below w.heap.size w w' := by
  have hlt : decide (n1 < n0) = false := by simp; omega
  go_enter Try.func5, Try.ntmps5
  go_wp2_with fail
  refine (alive_any _).mono ?_
  rintro e wa ⟨rfl, ba⟩
  go_wp2_with fail
  go_loopw [6, 7, 8] (fun vx vz i wr => ∃ k : Nat, k ≤ n0 ∧ i = .int .i64 k ∧ Two w wr vx vz l m k) (fun _ _ i _ => n0 - (intOf i).toNat)
  case atStart => exact ⟨0, Nat.zero_le _, rfl, ⟨Own.nil _ _, Own.nil _ _, fun k hk => (by cases hk), ba⟩⟩
  case round =>
    obtain ⟨k, hk, rfl, T⟩ := hrel
    by_cases hgo : k < n0
    · cases a0 with
      | none => have := h0.len; rw [(h0.nil rfl).1] at this; simp at this; omega
      | some x0 =>
        cases a1 with
        | none => have := h1.len; rw [(h1.nil rfl).1] at this; simp at this; omega
        | some x1 =>
          obtain ⟨b0, o0, rfl⟩ := h0.flat (by omega)
          obtain ⟨b1, o1, rfl⟩ := h1.flat (by omega)
          have q0 := (h0.later T.bel).row _ rfl k (by rw [h0.len]; exact hgo)
          have q1 := (h1.later T.bel).row _ rfl k (by rw [h1.len]; omega)
          rw [Addr.add_lit] at q0 q1
          have hgi : (k : Int) < (n0 : Int) := by omega
          have hgj : (k : Int) < (n1 : Int) := by omega
          obtain ⟨tx, tz, tap, tb⟩ := T
          have tsz := tb.size
          have z0 : 0 ≤ l.getD k 0 ∧ l.getD k 0 < 256 := h0.byte _ (by simp [List.getD, show k < l.length by rw [h0.len]; exact hgo])
          have z1 : 0 ≤ m.getD k 0 ∧ m.getD k 0 < 256 := h1.byte _ (by simp [List.getD, show k < m.length by rw [h1.len]; omega])
          go_wp2_with fail
          go_region_law (refine step_one rfl (.tmp 24) (.tmp 34) rfl w.heap.size (xorL l m k) u6 rfl ⟨wr.heap.size, 0, none⟩ rfl (bits .xor .u8 (l[k]?.getD 0) (m[k]?.getD 0)) (by simp) (by exact tx.alloc _) (by simp; omega) (by rw [xorL_length]; omega) ?_; intro v1 w1 k1 k2 k3 k4)
          all_goals
            have hX : Own w.heap.size w1 v1 (xorL l m (k + 1)) := by rw [xorL_succ, ← xor_val _ _ z0.1 z0.2 z1.1 z1.2]; exact k1
            have hZ := Own.other (B := w.heap.size) (u := u7) (m := zeros k) (by exact tz.alloc _) tap k3 k4
            have tb1 : Below w.heap.size w w1 := Own.grown (by exact tx.alloc _) (by exact (tb.drew).alloc tsz _) k3 (by simp; omega)
            obtain ⟨tz1, tap1⟩ := hZ
            have tsz1 := tb1.size
            clear k1 k2 k3 k4 tx tz tap tb q0 q1
            go_wp2_with (at_builtin; go_must (refine near_one _ rfl (.tmp 36) (.tmp 37) rfl w.heap.size (zeros k) u7 rfl ⟨w1.heap.size, 0, none⟩ rfl 0 (by simp) (by exact tz1.alloc _) (by simp; omega) (by rw [zeros_length]; omega) ?_; intro v2 w2 j1 j2 j3 j4))
            have hZ2 : Own w.heap.size w2 v2 (zeros (k + 1)) := by rw [zeros_succ]; exact j1
            obtain ⟨hX2, tap2⟩ := Own.other (B := w.heap.size) (u := v1) (m := xorL l m (k + 1)) (by exact hX.alloc _) tap1.symm j3 j4
            have tb2 : Below w.heap.size w w2 := Own.grown (by exact tz1.alloc _) (by exact tb1.alloc tsz1 _) j3 (by simp; omega)
            have T2 : Two w w2 v1 v2 l m (k + 1) := ⟨hX2, hZ2, tap2.symm, tb2⟩
            clear j1 j2 j3 j4 hX tz1 tap1 tb1 hX2 hZ2 tap2 tb2
            go_wp2
            go_roundw
            case rel => exact ⟨k + 1, by omega, by go_num, T2⟩
            case measure => simp [intOf]; omega
    · obtain rfl : k = n0 := by omega
      obtain ⟨tx, tz, tap, tb⟩ := T
      have hl0 := h0.len
      have hl1 := h1.len
      obtain ⟨gx, nx, cx, hvx, hx, _⟩ := tx.hs (xorL_byte l m k h0.byte h1.byte)
      obtain ⟨gz, nz, cz, hvz, hz, _⟩ := tz.hs (zeros_byte k)
      subst hvx hvz
      have g0 := (h0.later tb).cut k (Nat.le_refl _)
      have g1 := (h1.later tb).cut k hle
      have mx : nx ≤ maxLen := by have := hx.len; rw [xorL_length] at this; unfold maxLen; omega
      have mz : nz ≤ maxLen := by have := hz.len; rw [zeros_length] at this; unfold maxLen; omega
      have mk : k ≤ maxLen := by unfold maxLen; omega
      have e1 := sum_adds l m k h0.byte h1.byte (by omega) (by omega)
      have s1 := M.sum_lt (l.take k) (fun z hz => (g0.byte z hz).2)
      have s2 := M.sum_lt (m.take k) (fun z hz => (g1.byte z hz).2)
      have s3 := M.sum_lt (zeros k) (fun z hz => (zeros_byte k z hz).2)
      have H1 := fun j => hide (sum_hs gx nx cx _ (wr.drewN j) (hx.later (below_drewN (Below.refl _ _) j)) mx)
      have H2 := fun j => hide (sum_hs a0 k c0 _ (wr.drewN j) (g0.later (below_drewN (Below.refl _ _) j)) mk)
      have H3 := fun j => hide (sum_hs a1 k c1 _ (wr.drewN j) (g1.later (below_drewN (Below.refl _ _) j)) mk)
      have H4 := fun j => hide (sum_hs gz nz cz _ (wr.drewN j) (hz.later (below_drewN (Below.refl _ _) j)) mz)
      have c0k := h0.cap
      have c1k := h1.cap
      have hA : a0 = none → a1 = none → M.sum (l.take k) = M.sum (m.take k) := by
        intro e2 e3
        rw [(h0.nil e2).1, (h1.nil e3).1]
      generalize M.sum (xorL l m k) = A at *
      generalize M.sum (l.take k) = A1 at *
      generalize M.sum (m.take k) = A2 at *
      generalize M.sum (zeros k) = A3 at *
      have ht : ((A : Int) == bits .xor .u32 (bits .xor .u32 (A1 : Int) (A2 : Int)) (A3 : Int)) = true := by
        rw [u32_xor_nat A1 A2 s1 s2, u32_xor_nat _ A3 (M.xor_lt s1 s2) s3, e1]
        simp
      have hn0 := fun e => h0.nil e
      have hn1 := fun e => h1.nil e
      clear e1 s1 s2 s3 g0 g1 hx hz tx tz tap hgo h0 h1
      cases a0 with
      | none =>
        obtain ⟨e2, e3⟩ := hn0 rfl
        subst e2 e3
        obtain rfl : 0 = k := hl0
        cases a1 with
        | none =>
          obtain ⟨e2, e3⟩ := hn1 rfl
          subst e2 e3
          obtain rfl : 0 = n1 := hl1
          obtain rfl := hA rfl rfl
          go_wp2_with fail
          go_quiet ((first | (go_at_call_of 13 (Value.slice gx nx cx); exact Calls.quiet_of_same (H1 _).out) | (go_at_call_of 13 (Value.slice none 0 0); exact Calls.quiet_of_same (H2 _).out) | (go_at_call_of 13 (Value.slice gz nz cz); exact Calls.quiet_of_same (H4 _).out)))
          clear H1 H2 H3 H4
          go_wp2
          go_ret
          exact ⟨rfl, below_drewN tb nq⟩
        | some x1 =>
          clear hn0 hn1 hl1
          go_wp2_with fail
          go_quiet ((first | (go_at_call_of 13 (Value.slice gx nx cx); exact Calls.quiet_of_same (H1 _).out) | (go_at_call_of 13 (Value.slice none 0 0); exact Calls.quiet_of_same (H2 _).out) | (go_at_call_of 13 (Value.slice (some x1) 0 c1); exact Calls.quiet_of_same (H3 _).out) | (go_at_call_of 13 (Value.slice gz nz cz); exact Calls.quiet_of_same (H4 _).out)))
          clear H1 H2 H3 H4
          go_wp2
          go_ret
          exact ⟨rfl, below_drewN tb nq⟩
      | some x0 =>
        cases a1 with
        | none =>
          obtain ⟨e2, e3⟩ := hn1 rfl
          subst e2 e3
          obtain rfl : 0 = n1 := hl1
          obtain rfl : k = 0 := by omega
          clear hn0 hn1 hl0
          go_wp2_with fail
          go_quiet ((first | (go_at_call_of 13 (Value.slice gx nx cx); exact Calls.quiet_of_same (H1 _).out) | (go_at_call_of 13 (Value.slice (some x0) 0 c0); exact Calls.quiet_of_same (H2 _).out) | (go_at_call_of 13 (Value.slice none 0 0); exact Calls.quiet_of_same (H3 _).out) | (go_at_call_of 13 (Value.slice gz nz cz); exact Calls.quiet_of_same (H4 _).out)))
          clear H1 H2 H3 H4
          go_wp2
          go_ret
          exact ⟨rfl, below_drewN tb nq⟩
        | some x1 =>
          clear hn0 hn1 hl0 hl1
          go_wp2_with fail
          go_quiet ((first | (go_at_call_of 13 (Value.slice gx nx cx); exact Calls.quiet_of_same (H1 _).out) | (go_at_call_of 13 (Value.slice (some x0) k c0); exact Calls.quiet_of_same (H2 _).out) | (go_at_call_of 13 (Value.slice (some x1) k c1); exact Calls.quiet_of_same (H3 _).out) | (go_at_call_of 13 (Value.slice gz nz cz); exact Calls.quiet_of_same (H4 _).out)))
          clear H1 H2 H3 H4
          go_wp2
          go_ret
          exact ⟨rfl, below_drewN tb nq⟩

set_option maxHeartbeats 1000000 in
theorem adds_less (a0 : Option Addr) (n0 c0 : Nat) (l : List Int) (a1 : Option Addr) (n1 c1 : Nat) (m : List Int) (w : World) (h0 : Hs w a0 n0 c0 l) (h1 : Hs w a1 n1 c1 m) (r0 : n0 ≤ 140737488351232) (r1 : n1 ≤ 140737488351232) (hle : n1 < n0) :
    Calls Try.prog 5 #[.slice a0 n0 c0, .slice a1 n1 c1] w fun e w' => e = .returned (.bool true) ∧ Below w.heap.size w w' := by
  have hlt : decide (n1 < n0) = true := by simp; omega
  go_enter Try.func5, Try.ntmps5
  go_wp2_with fail
  refine (alive_any _).mono ?_
  rintro e wa ⟨rfl, ba⟩
  go_wp2_with fail
  go_loopw [6, 7, 8] (fun vx vz i wr => ∃ k : Nat, k ≤ n1 ∧ i = .int .i64 k ∧ Two w wr vx vz l m k) (fun _ _ i _ => n1 - (intOf i).toNat)
  case atStart => exact ⟨0, Nat.zero_le _, rfl, ⟨Own.nil _ _, Own.nil _ _, fun k hk => (by cases hk), ba⟩⟩
  case round =>
    obtain ⟨k, hk, rfl, T⟩ := hrel
    by_cases hgo : k < n1
    · cases a0 with
      | none => have := h0.len; rw [(h0.nil rfl).1] at this; simp at this; omega
      | some x0 =>
        cases a1 with
        | none => have := h1.len; rw [(h1.nil rfl).1] at this; simp at this; omega
        | some x1 =>
          obtain ⟨b0, o0, rfl⟩ := h0.flat (by omega)
          obtain ⟨b1, o1, rfl⟩ := h1.flat (by omega)
          have q0 := (h0.later T.bel).row _ rfl k (by rw [h0.len]; omega)
          have q1 := (h1.later T.bel).row _ rfl k (by rw [h1.len]; omega)
          rw [Addr.add_lit] at q0 q1
          have hgi : (k : Int) < (n0 : Int) := by omega
          have hgj : (k : Int) < (n1 : Int) := by omega
          obtain ⟨tx, tz, tap, tb⟩ := T
          have tsz := tb.size
          have z0 : 0 ≤ l.getD k 0 ∧ l.getD k 0 < 256 := h0.byte _ (by simp [List.getD, show k < l.length by rw [h0.len]; omega])
          have z1 : 0 ≤ m.getD k 0 ∧ m.getD k 0 < 256 := h1.byte _ (by simp [List.getD, show k < m.length by rw [h1.len]; omega])
          go_wp2_with fail
          go_region_law (refine step_one rfl (.tmp 24) (.tmp 34) rfl w.heap.size (xorL l m k) u6 rfl ⟨wr.heap.size, 0, none⟩ rfl (bits .xor .u8 (l[k]?.getD 0) (m[k]?.getD 0)) (by simp) (by exact tx.alloc _) (by simp; omega) (by rw [xorL_length]; omega) ?_; intro v1 w1 k1 k2 k3 k4)
          all_goals
            have hX : Own w.heap.size w1 v1 (xorL l m (k + 1)) := by rw [xorL_succ, ← xor_val _ _ z0.1 z0.2 z1.1 z1.2]; exact k1
            have hZ := Own.other (B := w.heap.size) (u := u7) (m := zeros k) (by exact tz.alloc _) tap k3 k4
            have tb1 : Below w.heap.size w w1 := Own.grown (by exact tx.alloc _) (by exact (tb.drew).alloc tsz _) k3 (by simp; omega)
            obtain ⟨tz1, tap1⟩ := hZ
            have tsz1 := tb1.size
            clear k1 k2 k3 k4 tx tz tap tb q0 q1
            go_wp2_with (at_builtin; go_must (refine near_one _ rfl (.tmp 36) (.tmp 37) rfl w.heap.size (zeros k) u7 rfl ⟨w1.heap.size, 0, none⟩ rfl 0 (by simp) (by exact tz1.alloc _) (by simp; omega) (by rw [zeros_length]; omega) ?_; intro v2 w2 j1 j2 j3 j4))
            have hZ2 : Own w.heap.size w2 v2 (zeros (k + 1)) := by rw [zeros_succ]; exact j1
            obtain ⟨hX2, tap2⟩ := Own.other (B := w.heap.size) (u := v1) (m := xorL l m (k + 1)) (by exact hX.alloc _) tap1.symm j3 j4
            have tb2 : Below w.heap.size w w2 := Own.grown (by exact tz1.alloc _) (by exact tb1.alloc tsz1 _) j3 (by simp; omega)
            have T2 : Two w w2 v1 v2 l m (k + 1) := ⟨hX2, hZ2, tap2.symm, tb2⟩
            clear j1 j2 j3 j4 hX tz1 tap1 tb1 hX2 hZ2 tap2 tb2
            go_wp2
            go_roundw
            case rel => exact ⟨k + 1, by omega, by go_num, T2⟩
            case measure => simp [intOf]; omega
    · obtain rfl : k = n1 := by omega
      obtain ⟨tx, tz, tap, tb⟩ := T
      have hl0 := h0.len
      have hl1 := h1.len
      obtain ⟨gx, nx, cx, hvx, hx, _⟩ := tx.hs (xorL_byte l m k h0.byte h1.byte)
      obtain ⟨gz, nz, cz, hvz, hz, _⟩ := tz.hs (zeros_byte k)
      subst hvx hvz
      have g0 := (h0.later tb).cut k (by omega)
      have g1 := (h1.later tb).cut k (Nat.le_refl _)
      have mx : nx ≤ maxLen := by have := hx.len; rw [xorL_length] at this; unfold maxLen; omega
      have mz : nz ≤ maxLen := by have := hz.len; rw [zeros_length] at this; unfold maxLen; omega
      have mk : k ≤ maxLen := by unfold maxLen; omega
      have e1 := sum_adds l m k h0.byte h1.byte (by omega) (by omega)
      have s1 := M.sum_lt (l.take k) (fun z hz => (g0.byte z hz).2)
      have s2 := M.sum_lt (m.take k) (fun z hz => (g1.byte z hz).2)
      have s3 := M.sum_lt (zeros k) (fun z hz => (zeros_byte k z hz).2)
      have H1 := fun j => hide (sum_hs gx nx cx _ (wr.drewN j) (hx.later (below_drewN (Below.refl _ _) j)) mx)
      have H2 := fun j => hide (sum_hs a0 k c0 _ (wr.drewN j) (g0.later (below_drewN (Below.refl _ _) j)) mk)
      have H3 := fun j => hide (sum_hs a1 k c1 _ (wr.drewN j) (g1.later (below_drewN (Below.refl _ _) j)) mk)
      have H4 := fun j => hide (sum_hs gz nz cz _ (wr.drewN j) (hz.later (below_drewN (Below.refl _ _) j)) mz)
      have c0k := h0.cap
      have c1k := h1.cap
      have hA : a0 = none → a1 = none → M.sum (l.take k) = M.sum (m.take k) := by
        intro e2 e3
        rw [(h0.nil e2).1, (h1.nil e3).1]
      generalize M.sum (xorL l m k) = A at *
      generalize M.sum (l.take k) = A1 at *
      generalize M.sum (m.take k) = A2 at *
      generalize M.sum (zeros k) = A3 at *
      have ht : ((A : Int) == bits .xor .u32 (bits .xor .u32 (A1 : Int) (A2 : Int)) (A3 : Int)) = true := by
        rw [u32_xor_nat A1 A2 s1 s2, u32_xor_nat _ A3 (M.xor_lt s1 s2) s3, e1]
        simp
      have hn0 := fun e => h0.nil e
      have hn1 := fun e => h1.nil e
      clear e1 s1 s2 s3 g0 g1 hx hz tx tz tap hgo h0 h1
      cases a0 with
      | none =>
        exfalso
        rw [(hn0 rfl).1] at hl0
        simp at hl0
        omega
      | some x0 =>
        cases a1 with
        | none =>
          obtain ⟨e2, e3⟩ := hn1 rfl
          subst e2 e3
          obtain rfl : 0 = k := hl1
          clear hn0 hn1 hl0 hA
          go_wp2_with fail
          go_quiet ((first | (go_at_call_of 13 (Value.slice gx nx cx); exact Calls.quiet_of_same (H1 _).out) | (go_at_call_of 13 (Value.slice (some x0) 0 c0); exact Calls.quiet_of_same (H2 _).out) | (go_at_call_of 13 (Value.slice none 0 0); exact Calls.quiet_of_same (H3 _).out) | (go_at_call_of 13 (Value.slice gz nz cz); exact Calls.quiet_of_same (H4 _).out)))
          clear H1 H2 H3 H4
          go_wp2
          go_ret
          exact ⟨rfl, below_drewN tb nq⟩
        | some x1 =>
          clear hn0 hn1 hl0 hl1
          go_wp2_with fail
          go_quiet ((first | (go_at_call_of 13 (Value.slice gx nx cx); exact Calls.quiet_of_same (H1 _).out) | (go_at_call_of 13 (Value.slice (some x0) k c0); exact Calls.quiet_of_same (H2 _).out) | (go_at_call_of 13 (Value.slice (some x1) k c1); exact Calls.quiet_of_same (H3 _).out) | (go_at_call_of 13 (Value.slice gz nz cz); exact Calls.quiet_of_same (H4 _).out)))
          clear H1 H2 H3 H4
          go_wp2
          go_ret
          exact ⟨rfl, below_drewN tb nq⟩

theorem adds_walk (a0 : Option Addr) (len0 cap0 : Nat) (z0 : List Int) (a1 : Option Addr) (len1 cap1 : Nat) (z1 : List Int) (w : World) (w0 : CameS w a0 len0 cap0 z0) (w1 : CameS w a1 len1 cap1 z1) :
    Calls Try.prog 5 #[.slice a0 len0 cap0, .slice a1 len1 cap1] w fun e w' => e = .returned (.bool true) ∧ Below w.heap.size w w' := by
  obtain ⟨h0, m0⟩ := Hs.ofS w0
  obtain ⟨h1, m1⟩ := Hs.ofS w1
  by_cases h : len0 ≤ len1
  · exact adds_core a0 len0 cap0 _ a1 len1 cap1 _ w h0 h1 m0 m1 h
  · exact adds_less a0 len0 cap0 _ a1 len1 cap1 _ w h0 h1 m0 m1 (by omega)
#print axioms adds_walk

end Go.Proofs.Ytnodhappbknclab
