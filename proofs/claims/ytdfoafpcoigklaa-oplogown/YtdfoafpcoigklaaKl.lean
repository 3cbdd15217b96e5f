import Derived.Test.YtdfoafpcoigklaaGKh
namespace Go.Proofs.Ytdfoafpcoigklaa
open Go.RowKit Go.Maps
open Classical
set_option linter.unusedVariables false
set_option linter.unusedSimpArgs false

set_option maxRecDepth 100000 in
set_option maxHeartbeats 1000000 in
theorem refent6_any (L : List En) (a : Option Addr) (n c : Nat) (C N k s : Int) (v : ByteArray) (w : World) (h : SlY yE w a n c L) (hf : (⟨k, s, v⟩ : Opn).fits) :
    Calls Try.prog 54 #[.slice a n c, .agg #[.int .i64 C, .int .i64 N, .int .i64 k, .int .i64 s, .string v]] w fun e w' => e = .returned (.int .i64 (er L ⟨C, N, ⟨k, s, v⟩⟩)) ∧ Below w.heap.size w w' := by
  have hmx := h.max
  have hcp := h.cap
  have HN := hide h.len
  unfold maxLen at hmx
  have H := hide h
  have cc := fun W => refcheck k s v hf W
  have bA := (Below.refl w.heap.size w).alloc (Nat.le_refl _) (.cells #[.int .i64 C, .int .i64 N, .int .i64 k, .int .i64 s, .string v] 41)
  clear h
  by_cases h1 : C < 0
  · have hE : Hid (er L ⟨C, N, ⟨k, s, v⟩⟩ = 62) := by show _ = _; simp [er, ckE, h1]
    have d1 : decide (C < 0) = true := by simpa using h1
    go_enter Try.func54, Try.ntmps54
    go_wp2
    go_ret
    exact ⟨ret_int hE.out.symm, bA⟩
  · by_cases h2 : 16 ≤ C
    · have hE : Hid (er L ⟨C, N, ⟨k, s, v⟩⟩ = 62) := by show _ = _; simp [er, ckE, h2]
      go_enter Try.func54, Try.ntmps54
      go_wp2
      go_ret
      exact ⟨ret_int hE.out.symm, bA⟩
    · by_cases h3 : N < 1
      · have hE : Hid (er L ⟨C, N, ⟨k, s, v⟩⟩ = 63) := by show _ = _; simp [er, ckE, h1, h2, h3]
        go_enter Try.func54, Try.ntmps54
        go_wp2
        go_ret
        exact ⟨ret_int hE.out.symm, bA⟩
      · have hck : Hid (ckE ⟨C, N, ⟨k, s, v⟩⟩ = ck k s v) := by show _ = _; simp [ckE, h1, h2, h3]
        have hER : Hid (er L ⟨C, N, ⟨k, s, v⟩⟩ = if ck k s v ≠ 0 then ck k s v else if tw L ⟨C, N, ⟨k, s, v⟩⟩ then 64 else 0) := by show _ = _; rw [er, hck.out]
        clear hck
        generalize ck k s v = x at *
        by_cases hx : x = 0
        · subst hx
          go_enter Try.func54, Try.ntmps54
          go_wp2_with (go_at_call 77; refine (cc _).mono ?_; rintro e w2 ⟨rfl, b2⟩)
          have b3 : Below w.heap.size w w2 := bA.trans (b2.mono (by simp))
          have hwz : w.heap.size < w2.heap.size := by have := b2.size; simp at this; omega
          have q0 : w2.cell? ⟨w.heap.size, 0, none⟩ = some (.int .i64 C) := (b2.cell (p := ⟨w.heap.size, 0, none⟩) (by simp)).trans (World.cell?_alloc_at _ _ _ _ rfl)
          have q1 : w2.cell? ⟨w.heap.size, 1, none⟩ = some (.int .i64 N) := (b2.cell (p := ⟨w.heap.size, 1, none⟩) (by simp)).trans (World.cell?_alloc_at _ _ _ _ rfl)
          clear b2
          go_loopw [6] (fun i wr => ∃ m q : Nat, i = .int .i64 (m : Int) ∧ m ≤ n ∧ Hid (tw (L.take m) ⟨C, N, ⟨k, s, v⟩⟩ = false) ∧ wr = w2.drewN q) (fun i _ => n - (intOf i).toNat)
          case atStart => exact ⟨0, 0, rfl, Nat.zero_le _, by show tw _ _ = _; simp [tw], rfl⟩
          case round =>
            obtain ⟨m, q, rfl, hm, htw, rfl⟩ := hrel
            by_cases hlm : m < n
            · have hml : m < L.length := by rw [HN.out]; exact hlm
              have hgm : L[m]? = some L[m] := List.getElem?_eq_getElem hml
              have hst := tw_take_step (e := ⟨C, N, ⟨k, s, v⟩⟩) hgm
              obtain ⟨q3, o3, rfl, hq3, f0, f1, f2, f3, f4⟩ := (H.out.later b3).en hgm
              generalize L[m] = p at *
              rw [htw.out] at hst
              have hST := hide hst
              clear hst hgm htw
              obtain ⟨Cp, Np, op⟩ := p
              dsimp only at *
              by_cases hc : Cp = C
              · subst hc
                by_cases hn : N ≤ Np
                · have hE : Hid (er L ⟨Cp, N, ⟨k, s, v⟩⟩ = 64) := by
                    show _ = _
                    have ht : tw L ⟨Cp, N, ⟨k, s, v⟩⟩ = true := by
                      have := tw_mono (L := L) (e := ⟨Cp, N, ⟨k, s, v⟩⟩) (i := L.length) (show m + 1 ≤ L.length by omega) (hST.out.trans (by simp [hn]))
                      rwa [List.take_length] at this
                    rw [hER.out, ht]
                    simp
                  go_wp2
                  go_quiet (fail)
                  go_wp2
                  go_ret
                  exact ⟨ret_int hE.out.symm, belN (belN b3 _) _⟩
                · have hT : Hid (tw (L.take (m + 1)) ⟨Cp, N, ⟨k, s, v⟩⟩ = false) := by show _ = _; rw [hST.out]; simp [hn]
                  have dn : decide (N ≤ Np) = false := by simpa using hn
                  go_wp2
                  go_quiet (fail)
                  go_wp2
                  go_round
                  case rel => exact ⟨m + 1, q + nq, by go_num, by omega, hT, by simp⟩
                  case measure => simp [intOf]; omega
              · have hT : Hid (tw (L.take (m + 1)) ⟨C, N, ⟨k, s, v⟩⟩ = false) := by show _ = _; rw [hST.out]; simp [hc]
                have dn : decide (Cp = C) = false := by simpa using hc
                go_wp2
                go_quiet (fail)
                go_wp2
                go_round
                case rel => exact ⟨m + 1, q + nq, by go_num, by omega, hT, by simp⟩
                case measure => simp [intOf]; omega
            · obtain rfl : m = n := by omega
              have hE : Hid (er L ⟨C, N, ⟨k, s, v⟩⟩ = 0) := by
                show _ = _
                have ht := htw.out
                rw [List.take_of_length_le (by rw [HN.out]; exact Nat.le_refl _)] at ht
                rw [hER.out, ht]
                simp
              go_wp2
              go_ret
              exact ⟨ret_int hE.out.symm, belN b3 _⟩
        · have hE : Hid (er L ⟨C, N, ⟨k, s, v⟩⟩ = x) := by show _ = _; rw [hER.out]; simp [hx]
          go_enter Try.func54, Try.ntmps54
          go_wp2_with (go_at_call 77; refine (cc _).mono ?_; rintro e w2 ⟨rfl, b2⟩)
          go_ret
          exact ⟨ret_int hE.out.symm, bA.trans (b2.mono (by simp))⟩

end Go.Proofs.Ytdfoafpcoigklaa
