import Derived.Test.YtjedpnhdpnknoabLs
import Derived.Test.YtjedpnhdpnknoabLi
namespace Go.Proofs.Ytjedpnhdpnknoab
open Go.RowKit
set_option linter.unusedVariables false

theorem len_dn (L : List Cl) (k s : Int) (v : ByteArray) : (dn L k s v).length = L.length + (if (wd L k s v).1 = 1 then 1 else 0) := by
  unfold dn
  split
  · rw [len_ins]
  · rfl
theorem wrote_any (r : Rs) (w : World) : Calls Try.prog 20 #[.agg #[.int .i64 r.1, .int .i64 r.2.1, .string r.2.2]] w fun e w' => e = .returned (.bool (decide (r.1 = 1))) ∧ Below w.heap.size w w' := by
  obtain ⟨a, b, c⟩ := r
  dsimp only
  by_cases h : a = 1
  · subst h
    go_enter Try.func20, Try.ntmps20
    go_wp2
    go_ret
    exact ⟨rfl, (Below.refl _ w).alloc (Nat.le_refl _) _⟩
  · have hb : (a == 1) = false := by simp [h]
    rw [decide_eq_false h]
    go_enter Try.func20, Try.ntmps20
    go_wp2
    go_ret
    exact ⟨rfl, (Below.refl _ w).alloc (Nat.le_refl _) _⟩
theorem cells_b (B : Nat) (w0 : World) (b : Nat) (L : List Cl) (w : World) (h : LedB B w0 w b L) :
    Calls Try.prog 17 #[.pointer (some ⟨b, 0, none⟩)] w fun e w' => ∃ v, e = .returned v ∧ OwnC w.heap.size w' v L ∧ Below w.heap.size w w' := by
  obtain ⟨m, h1, _⟩ := h
  exact cells_any b m L w h1
theorem neq_same (r : Rs) (w : World) : (binOp .neq 26 (.agg #[.int .i64 r.1, .int .i64 r.2.1, .string r.2.2]) (.agg #[.int .i64 r.1, .int .i64 r.2.1, .string r.2.2])).run Try.prog w = .ok (.bool false) w := by rw [neq_res]; simp
theorem wd_count (L : List Cl) : wd L 4 0 ByteArray.empty = (6, (L.length : Int), ByteArray.empty) := by simp [wd, ck]
theorem fits_count : (⟨4, 0, ByteArray.empty⟩ : Opn).fits := ⟨by dsimp only; decide, by dsimp only; decide, by dsimp only; decide⟩

theorem from_ok (D : List Cl) (a : Option Addr) (c : Nat) (hok : Ok D) (w : World) (h : SlC w (.slice a D.length c) D a c) :
    Calls Try.prog 14 #[.slice a D.length c] w fun e w' => e = .returned (.tuple #[.pointer (some ⟨w.heap.size, 0, none⟩), .int .i64 0]) ∧ LedB w.heap.size w w' w.heap.size D := by
  refine (from_any D a c w h (fun p hp => ?_)).mono ?_
  · have := hok.may p hp
    exact ⟨wf_i64 (by omega), by unfold maxLen; omega⟩
  · rintro e w' (⟨_, h1, h2⟩ | ⟨h1, _⟩)
    · exact ⟨h1, h2⟩
    · exact absurd hok h1
theorem same_own (A : List Cl) (a1 a2 : Option Addr) (c1 c2 : Nat) (w : World) (h1 : SlC w (.slice a1 A.length c1) A a1 c1) (h2 : SlC w (.slice a2 A.length c2) A a2 c2) :
    Calls Try.prog 16 #[.slice a1 A.length c1, .slice a2 A.length c2] w fun e w' => e = .returned (.bool true) ∧ Below w.heap.size w w' :=
  (samecells_any A A a1 a2 c1 c2 w h1 h2).mono (by
    rintro e w' ⟨rfl, k, rfl⟩
    exact ⟨by simp, belN (Below.refl _ w) k⟩)
set_option maxRecDepth 100000 in
set_option maxHeartbeats 1000000 in
theorem rises_walk (P : List Opn) (a : Option Addr) (cap : Nat) (w : World) (hP : Ops w a P) (hf : ∀ p ∈ P, p.fits) (hl : P.length * 32 ≤ 140737488351232) :
    Calls Try.prog 6 #[.slice a P.length cap] w fun e w' => e = .returned (.bool true) ∧ Below w.heap.size w w' := by
  have HP := hide hP
  have HF := hide hf
  clear hP hf
  have hlz : (P.length : Int) ≤ 9223372036854775807 := by omega
  go_enter Try.func6, Try.ntmps6
  go_wp2_with (first | (go_at_call 9; refine (new_b w.heap.size w w (Below.refl _ _) (Nat.le_refl _)).mono ?_; rintro e w1 ⟨rfl, l1, s1⟩; clear s1) | (go_at_call 12; refine (works_any _).mono ?_; rintro e w2 ⟨rfl, b2⟩; replace l1 := l1.on b2))
  go_loopw [5, 4] (fun i n wr => ∃ j : Nat, i = .int .i64 (j : Int) ∧ n = .int .i64 ((pl [] (P.take j)).length : Int) ∧ j ≤ P.length ∧ LedB w.heap.size w wr w.heap.size (pl [] (P.take j))) (fun i _ _ => P.length - (intOf i).toNat)
  case atStart => exact ⟨0, rfl, rfl, Nat.zero_le _, l1⟩
  case round =>
    obtain ⟨j, rfl, rfl, hj, l2⟩ := hrel
    by_cases hlt : j < P.length
    · have hg : P[j]? = some P[j] := List.getElem?_eq_getElem hlt
      have ht := pl_take [] hg
      have hfj := HF.out P[j] (List.getElem_mem hlt)
      obtain ⟨q, o, ea, c0, c1, c2⟩ := HP.out.later l2.bel j hlt
      generalize P[j] = p at *
      obtain ⟨k, s, v'⟩ := p
      subst ea
      dsimp only at c0 c1 c2 ht
      have hth := hide ht
      have hll := l2.ok.len_le
      generalize pl [] (P.take j) = L at *
      clear ht hg
      have hld := len_dn L k s v'
      have cw := fun W => wrote_any (wd L k s v') W
      have cdd := fun W hW => do_b w.heap.size w w.heap.size L k s v' hfj W hW
      have hn2 := fun W => neq_same (6, ((dn L k s v').length : Int), ByteArray.empty) W
      have cwd := fun W hW => would_b w.heap.size w w.heap.size (dn L k s v') 4 0 ByteArray.empty fits_count W hW
      rw [wd_count] at cwd
      have cl := fun W hW => len_b w.heap.size w w.heap.size (dn L k s v') W hW
      dsimp only at hn2 cwd
      generalize hdl : dn L k s v' = L' at *
      generalize wd L k s v' = r at *
      obtain ⟨rc, rs, rv⟩ := r
      dsimp only at cw cdd hld
      by_cases hr : rc = 1
      · subst hr
        simp only [if_pos] at hld
        have hc : ((L.length : Int) + 1) = (L'.length : Int) := by omega
        have hdh := hide hld
        generalize hNN : L'.length = N at *
        have HNN := hide hNN
        clear hld hNN
        go_wp2_with (first
          | (go_at_call 10; refine (cdd _ l2).mono ?_; rintro e w4 ⟨rfl, l4⟩)
          | (go_at_call 20; refine (cw _).mono ?_; rintro e w5 ⟨rfl, b5⟩; have l5 := l4.on b5)
          | (go_at_call 21; refine (cwd _ l5).mono ?_; rintro e w6 ⟨rfl, b6⟩; have l6 := (l5.on b6).on ((Below.refl _ w6).alloc (Nat.le_refl _) (.cells #[.int .i64 6, .int .i64 (N : Int), .string ByteArray.empty] 26)))
          | (go_at_call 22; refine (cl _ l6).mono ?_; rintro e w7 ⟨rfl, h7⟩; subst h7))
        go_round
        case rel => exact ⟨j + 1, by go_num, by rw [hth.out, HNN.out], by omega, by rw [hth.out]; exact l6⟩
        case measure => simp [intOf]; omega
      · have hld' : L'.length = L.length := by rw [hld]; simp [hr]
        rw [hld'] at hn2 cwd cl
        have hdh := hide hld'
        have hdf : decide (rc = 1) = false := decide_eq_false hr
        rw [hdf] at cw
        generalize hNN : L.length = N at *
        clear hld hld'
        go_wp2_with (first
          | (go_at_call 10; refine (cdd _ l2).mono ?_; rintro e w4 ⟨rfl, l4⟩)
          | (go_at_call 20; refine (cw _).mono ?_; rintro e w5 ⟨rfl, b5⟩; have l5 := l4.on b5)
          | (go_at_call 21; refine (cwd _ l5).mono ?_; rintro e w6 ⟨rfl, b6⟩; have l6 := (l5.on b6).on ((Below.refl _ w6).alloc (Nat.le_refl _) (.cells #[.int .i64 6, .int .i64 (N : Int), .string ByteArray.empty] 26)))
          | (go_at_call 22; refine (cl _ l6).mono ?_; rintro e w7 ⟨rfl, h7⟩; subst h7))
        go_round
        case rel => exact ⟨j + 1, by go_num, by rw [hth.out, hdh.out], by omega, by rw [hth.out]; exact l6⟩
        case measure => simp [intOf]; omega
    · obtain rfl : j = P.length := by omega
      rw [List.take_of_length_le (Nat.le_refl _)] at l2 ⊢
      generalize pl [] P = L at *
      have hok := l2.ok
      have hll := hok.len_le
      have hoh := hide hok
      clear hok
      have cs := cells_b w.heap.size w w.heap.size L wr l2
      go_wp2_with (go_at_call 17; refine cs.mono ?_; rintro e w3 ⟨v, rfl, o3, b3⟩; obtain ⟨a3, c3, hsl, hz3⟩ := o3.sl; have hv3 := hsl.form; subst hv3; have HSL := hide hsl; have HO3 := hide o3; have hcap3 := hsl.cap; have hmx3 := hsl.max; clear hsl o3 hz3)
      have l3 := l2.on b3
      unfold maxLen at hmx3
      go_loopw [8] (fun i ws => ∃ k n : Nat, i = .int .i64 (k : Int) ∧ k ≤ L.length ∧ ws = w3.drewN n) (fun i _ => L.length - (intOf i).toNat)
      case atStart => exact ⟨0, 0, rfl, Nat.zero_le _, rfl⟩
      case round =>
        obtain ⟨k, n, rfl, hk, rfl⟩ := hrel
        by_cases hlt2 : k < L.length
        · have hne : L ≠ [] := by rintro rfl; simp at hlt2
          obtain ⟨q, o, rfl, hq, hle⟩ := HSL.out.place hne
          have hd1 := some_atC hlt2
          have hmem := List.mem_of_getElem? hd1
          have hmay := hoh.out.may _ hmem
          obtain ⟨e0, e1⟩ := hle k _ hd1
          cases k with
          | zero =>
            generalize atC L 0 = p at *
            obtain ⟨s, v⟩ := p
            dsimp only at e0 e1 hmay
            have t1 : (s < 0) = False := by simp; omega
            have t2 : ((1024 : Int) ≤ s) = False := by simp; omega
            have t3 : ((64 : Int) < (v.size : Int)) = False := by simp; omega
            simp only [Nat.zero_mul, Nat.add_zero] at e0 e1
            go_wp2
            go_quiet (fail)
            go_wp2
            go_round
            case rel => exact ⟨1, n + nq, by go_num, by omega, by simp⟩
            case measure => simp [intOf]; omega
          | succ k =>
            have hd0 := some_atC (A := L) (k := k) (by omega)
            obtain ⟨e2, e3⟩ := hle k _ hd0
            have hup := (List.pairwise_iff_getElem.1 hoh.out.up) k (k + 1) (by omega) hlt2 (by omega)
            rw [show L[k] = atC L k by simp [atC, show k < L.length by omega], show L[k + 1] = atC L (k + 1) by simp [atC, hlt2]] at hup
            generalize atC L (k + 1) = p at *
            generalize atC L k = p0 at *
            obtain ⟨s, v⟩ := p
            obtain ⟨s0, v0⟩ := p0
            dsimp only at e0 e1 e2 hmay hup
            have t1 : (s < 0) = False := by simp; omega
            have t2 : ((1024 : Int) ≤ s) = False := by simp; omega
            have t3 : ((64 : Int) < (v.size : Int)) = False := by simp; omega
            have t4 : (s ≤ s0) = False := by simp; omega
            clear hle hd0 hd1 e3 hup hmay
            go_wp2
            go_quiet (fail)
            go_wp2
            go_round
            case rel => exact ⟨k + 1 + 1, n + nq, by go_num, by omega, by simp⟩
            case measure => simp [intOf]; omega
        · obtain rfl : k = L.length := by omega
          have cf := from_ok L a3 c3 hoh.out
          have hs4 := hide (HSL.out.later (belN (Below.refl _ w3) n))
          go_wp2_with (first
            | (go_at_call 14; refine (cf _ hs4.out).mono ?_; rintro e w5 ⟨rfl, l5⟩)
            | (go_at_call 17; refine (cells_b _ _ _ L _ l5).mono ?_; rintro e w6 ⟨v, rfl, o6, b6⟩; obtain ⟨a6, c6, hsl6, hz6⟩ := o6.sl; have hv6 := hsl6.form; subst hv6)
            | (go_at_call 16; refine (same_own L _ _ _ _ _ hsl6 ((hs4.out.later (l5.bel.mono (by simp))).later b6)).mono ?_; rintro e w7 ⟨rfl, b7⟩))
          go_ret
          refine ⟨rfl, ?_⟩
          have h1 := belN l3.bel n
          exact (h1.trans (l5.bel.mono h1.size)).trans ((b6.mono (by have := h1.size; have := l5.bel.size; omega)).trans (b7.mono (by have := h1.size; have := l5.bel.size; have := b6.size; omega)))

end Go.Proofs.Ytjedpnhdpnknoab
