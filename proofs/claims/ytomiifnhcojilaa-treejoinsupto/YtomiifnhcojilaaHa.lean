import Derived.Test.YtomiifnhcojilaaCz
namespace Go.Proofs.Ytomiifnhcojilaa
open Go.RowKit Go.Maps
open Classical
set_option linter.unusedVariables false
set_option linter.unusedSimpArgs false

/-- Draws. -/
def yD : Lay (Int × Int) := ⟨131, 80, 2, 16, fun d => [.int .u64 d.1, .int .u64 d.2], (0, 0)⟩
theorem kD : yD.Ok := ⟨by decide, fun x => rfl, fun x u h => by
    simp [yD] at h
    rcases h with rfl | rfl <;> rfl, Try.underlying80, ⟨.agg #[.int .u64 0, .int .u64 0], by kernel_rfl, rfl⟩⟩
def zD : Lay (SV (Int × Int)) := yS (Int × Int) 80 30
theorem kzD : zD.Ok := kS Try.underlying30 (by kernel_rfl)
def mkD : Int × Int := (77, 88)
theorem hTD : yD.T ≠ zD.T := by decide
theorem hED : yE.T ≠ zD.T := by decide
theorem hDE : yD.T ≠ zE.T := by decide
theorem hzz : zD.T ≠ zE.T := by decide
theorem SlY.dw {w : World} {a : Option Addr} {n c : Nat} {L : List (Int × Int)} (h : SlY yD w a n c L) {j : Nat} {e : Int × Int} (he : L[j]? = some e) : ∃ q o, a = some ⟨q, o, none⟩ ∧ q < w.heap.size ∧ w.cell? ⟨q, o + j * 2, none⟩ = some (.int .u64 e.1) ∧ w.cell? ⟨q, o + j * 2 + 1, none⟩ = some (.int .u64 e.2) := by
  obtain ⟨q, o, ea, hq, hl⟩ := h.place (by rintro rfl; simp at he)
  exact ⟨q, o, ea, hq, hl j e he 0 _ rfl, hl j e he 1 _ rfl⟩
theorem take_snoc {α : Type} {l : List α} {k : Nat} {x : α} (h : l[k]? = some x) : l.take (k + 1) = l.take k ++ [x] := by
  rw [List.take_add_one, h]; rfl
theorem ne_of_at {α : Type} {A B : List α} {k : Nat} {x y : α} (h1 : A[k]? = some x) (h2 : B[k]? = some y) (h : x ≠ y) : A ≠ B := by
  rintro rfl
  rw [h1] at h2
  exact h (Option.some.inj h2)
theorem take_all {α : Type} {A B : List α} {k : Nat} (h1 : A.length = k) (h2 : B.length = k) (h : A.take k = B.take k) : A = B := by
  rw [List.take_of_length_le (by omega), List.take_of_length_le (by omega)] at h
  exact h
theorem take_step {α : Type} {A B : List α} {k : Nat} {x : α} (h1 : A[k]? = some x) (h2 : B[k]? = some x) (h : A.take k = B.take k) : A.take (k + 1) = B.take (k + 1) := by
  rw [take_snoc h1, take_snoc h2, h]
set_option maxRecDepth 100000 in
set_option maxHeartbeats 2000000 in
theorem sameentsB (A B : List En) (a1 a2 : Option Addr) (n1 n2 c1 c2 : Nat) (w : World) (h1 : SlY yE w a1 n1 c1 A) (h2 : SlY yE w a2 n2 c2 B) :
    Calls Try.prog 51 #[.slice a1 n1 c1, .slice a2 n2 c2] w fun e w' => e = .returned (.bool (decide (A = B))) ∧ ∃ k, w' = w.drewN k := by
  have m1 := h1.max
  have m2 := h2.max
  have k1 := h1.cap
  have k2 := h2.cap
  unfold maxLen at m1 m2
  have L1 := hide h1.len
  have L2 := hide h2.len
  have H1 := hide h1
  have H2 := hide h2
  clear h1 h2
  by_cases hl : n1 = n2
  · subst hl
    go_enter Try.func51, Try.ntmps51
    go_wp2
    go_loopw [5] (fun i wr => ∃ (k j : Nat), i = .int .i64 (k : Int) ∧ k ≤ n1 ∧ A.take k = B.take k ∧ wr = w.drewN j) (fun i _ => n1 - (intOf i).toNat)
    case atStart => exact ⟨0, 0, rfl, Nat.zero_le _, rfl, rfl⟩
    case round =>
      obtain ⟨k, j, rfl, hk, hsame, rfl⟩ := hrel
      have HS := hide hsame
      clear hsame
      by_cases hlt : k < n1
      · obtain ⟨d1, hd1⟩ : ∃ d, A[k]? = some d := ⟨_, List.getElem?_eq_getElem (by rw [L1.out]; exact hlt)⟩
        obtain ⟨d2, hd2⟩ : ∃ d, B[k]? = some d := ⟨_, List.getElem?_eq_getElem (by rw [L2.out]; exact hlt)⟩
        have NS := hide (ne_of_at hd1 hd2)
        have HN := hide (fun (e : d1 = d2) => take_step hd1 (by rw [e]; exact hd2) HS.out)
        obtain ⟨q1, o1, rfl, _, e0, e1, e2, e3, e4⟩ := H1.out.en hd1
        obtain ⟨q2, o2, rfl, _, f0, f1, f2, f3, f4⟩ := H2.out.en hd2
        obtain ⟨C, N, ⟨ok, os, ov⟩⟩ := d1
        obtain ⟨C', N', ⟨ok', os', ov'⟩⟩ := d2
        dsimp only at e0 e1 e2 e3 e4 f0 f1 f2 f3 f4
        clear H1 H2 HS hd1 hd2
        by_cases ff : (⟨C, N, ⟨ok, os, ov⟩⟩ : En) = ⟨C', N', ⟨ok', os', ov'⟩⟩
        · have HS2 := hide (HN.out ff)
          cases ff
          clear HN NS
          go_wp2
          go_quiet (fail)
          go_wp2
          go_round
          case rel => exact ⟨k + 1, _, by go_num, by omega, HS2.out, rfl⟩
          case measure => simp [intOf]; omega
        · have NE := hide (decide_eq_false (NS.out ff))
          clear NS HN
          by_cases g_C : C = C'
          · subst g_C
            by_cases g_N : N = N'
            · subst g_N
              by_cases g_ok : ok = ok'
              · subst g_ok
                by_cases g_os : os = os'
                · subst g_os
                  by_cases g_ov : ov = ov'
                  · subst g_ov
                    exact absurd rfl ff
                  · have g2 : ¬ ov.toList = ov'.toList := fun e => g_ov ((bytes_inj _ _).1 e)
                    go_wp2
                    go_quiet (fail)
                    go_wp2
                    go_ret
                    exact ⟨by rw [NE.out]; rfl, j + nq, by simp⟩
                · go_wp2
                  go_quiet (fail)
                  go_wp2
                  go_ret
                  exact ⟨by rw [NE.out]; rfl, j + nq, by simp⟩
              · go_wp2
                go_quiet (fail)
                go_wp2
                go_ret
                exact ⟨by rw [NE.out]; rfl, j + nq, by simp⟩
            · go_wp2
              go_quiet (fail)
              go_wp2
              go_ret
              exact ⟨by rw [NE.out]; rfl, j + nq, by simp⟩
          · go_wp2
            go_quiet (fail)
            go_wp2
            go_ret
            exact ⟨by rw [NE.out]; rfl, j + nq, by simp⟩
      · obtain rfl : k = n1 := by omega
        have HE := hide (decide_eq_true (take_all L1.out L2.out HS.out))
        clear HS H1 H2
        go_wp2
        go_ret
        exact ⟨by rw [HE.out]; rfl, _, rfl⟩
  · have hl' : ¬ (n1 : Int) = (n2 : Int) := by omega
    have HE : Hid (decide (A = B) = false) := decide_eq_false (by rintro rfl; exact hl (L1.out.symm.trans L2.out))
    clear H1 H2
    go_enter Try.func51, Try.ntmps51
    go_wp2
    go_ret
    exact ⟨by rw [HE.out]; rfl, 0, rfl⟩
set_option maxRecDepth 100000 in
set_option maxHeartbeats 2000000 in
theorem samevecB (A B : List (Int × Int)) (a1 a2 : Option Addr) (n1 n2 c1 c2 : Nat) (w : World) (h1 : SlY yD w a1 n1 c1 A) (h2 : SlY yD w a2 n2 c2 B) :
    Calls Try.prog 50 #[.slice a1 n1 c1, .slice a2 n2 c2] w fun e w' => e = .returned (.bool (decide (A = B))) ∧ ∃ k, w' = w.drewN k := by
  have m1 := h1.max
  have m2 := h2.max
  have k1 := h1.cap
  have k2 := h2.cap
  unfold maxLen at m1 m2
  have L1 := hide h1.len
  have L2 := hide h2.len
  have H1 := hide h1
  have H2 := hide h2
  clear h1 h2
  by_cases hl : n1 = n2
  · subst hl
    go_enter Try.func50, Try.ntmps50
    go_wp2
    go_loopw [5] (fun i wr => ∃ (k j : Nat), i = .int .i64 (k : Int) ∧ k ≤ n1 ∧ A.take k = B.take k ∧ wr = w.drewN j) (fun i _ => n1 - (intOf i).toNat)
    case atStart => exact ⟨0, 0, rfl, Nat.zero_le _, rfl, rfl⟩
    case round =>
      obtain ⟨k, j, rfl, hk, hsame, rfl⟩ := hrel
      have HS := hide hsame
      clear hsame
      by_cases hlt : k < n1
      · obtain ⟨d1, hd1⟩ : ∃ d, A[k]? = some d := ⟨_, List.getElem?_eq_getElem (by rw [L1.out]; exact hlt)⟩
        obtain ⟨d2, hd2⟩ : ∃ d, B[k]? = some d := ⟨_, List.getElem?_eq_getElem (by rw [L2.out]; exact hlt)⟩
        have NS := hide (ne_of_at hd1 hd2)
        have HN := hide (fun (e : d1 = d2) => take_step hd1 (by rw [e]; exact hd2) HS.out)
        obtain ⟨q1, o1, rfl, _, e0, e1⟩ := H1.out.dw hd1
        obtain ⟨q2, o2, rfl, _, f0, f1⟩ := H2.out.dw hd2
        obtain ⟨X, Y⟩ := d1
        obtain ⟨X', Y'⟩ := d2
        dsimp only at e0 e1 f0 f1
        clear H1 H2 HS hd1 hd2
        by_cases ff : (X, Y) = (X', Y')
        · have HS2 := hide (HN.out ff)
          cases ff
          clear HN NS
          go_wp2
          go_quiet (fail)
          go_wp2
          go_round
          case rel => exact ⟨k + 1, _, by go_num, by omega, HS2.out, rfl⟩
          case measure => simp [intOf]; omega
        · have NE := hide (decide_eq_false (NS.out ff))
          clear NS HN
          by_cases g_X : X = X'
          · subst g_X
            by_cases g_Y : Y = Y'
            · subst g_Y
              exact absurd rfl ff
            · go_wp2
              go_quiet (fail)
              go_wp2
              go_ret
              exact ⟨by rw [NE.out]; rfl, j + nq, by simp⟩
          · go_wp2
            go_quiet (fail)
            go_wp2
            go_ret
            exact ⟨by rw [NE.out]; rfl, j + nq, by simp⟩
      · obtain rfl : k = n1 := by omega
        have HE := hide (decide_eq_true (take_all L1.out L2.out HS.out))
        clear HS H1 H2
        go_wp2
        go_ret
        exact ⟨by rw [HE.out]; rfl, _, rfl⟩
  · have hl' : ¬ (n1 : Int) = (n2 : Int) := by omega
    have HE : Hid (decide (A = B) = false) := decide_eq_false (by rintro rfl; exact hl (L1.out.symm.trans L2.out))
    clear H1 H2
    go_enter Try.func50, Try.ntmps50
    go_wp2
    go_ret
    exact ⟨by rw [HE.out]; rfl, 0, rfl⟩
end Go.Proofs.Ytomiifnhcojilaa
