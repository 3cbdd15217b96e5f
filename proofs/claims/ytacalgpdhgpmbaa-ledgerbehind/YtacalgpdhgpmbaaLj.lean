import Derived.Test.YtacalgpdhgpmbaaGLi
import Derived.IntWalk
namespace Go.Proofs.Ytacalgpdhgpmbaa
open Go.RowKit Go.Maps
set_option linter.unusedVariables false

theorem cell3 (w : World) (a b : Int) (c : ByteArray) (T : TypeId) : (w.alloc (.cells #[.int .i64 a, .int .i64 b, .string c] T)).cell? ⟨w.heap.size, 0, none⟩ = some (.int .i64 a) ∧ (w.alloc (.cells #[.int .i64 a, .int .i64 b, .string c] T)).cell? ⟨w.heap.size, 1, none⟩ = some (.int .i64 b) ∧ (w.alloc (.cells #[.int .i64 a, .int .i64 b, .string c] T)).cell? ⟨w.heap.size, 2, none⟩ = some (.string c) := by
  refine ⟨?_, ?_, ?_⟩
  all_goals go_simp
set_option maxRecDepth 100000 in
set_option maxHeartbeats 1000000 in
theorem behind_walk (P : List Opn) (a : Option Addr) (cap : Nat) (v : ByteArray) (w : World) (hP : Ops w a P) (hf : ∀ p ∈ P, p.fits) (hl : P.length * 32 ≤ 140737488351232) (hv : v.size ≤ maxLen) :
    Calls Try.prog 8 #[.slice a P.length cap, .string v] w fun e w' => e = .returned (.bool true) ∧ Below w.heap.size w w' := by
  have HP := hide hP
  have HF := hide hf
  have hok := Ok.nil.pl P
  have hoh := hide hok
  clear hP hf hok
  have hvz : (v.size : Int) ≤ 9223372036854775807 := by unfold maxLen at hv; omega
  have hlz : (P.length : Int) ≤ 9223372036854775807 := by omega
  go_enter Try.func8, Try.ntmps8
  go_wp2_with (go_at_call 17; refine (new_b w.heap.size w w (Below.refl _ _) (Nat.le_refl _)).mono ?_; rintro e w1 ⟨rfl, l1, s1⟩)
  go_loopw [6] (fun i wr => ∃ j : Nat, i = .int .i64 (j : Int) ∧ j ≤ P.length ∧ LedB w.heap.size w wr w.heap.size (pl [] (P.take j))) (fun i _ => P.length - (intOf i).toNat)
  case atStart => exact ⟨0, rfl, Nat.zero_le _, l1⟩
  case round =>
    obtain ⟨j, rfl, hj, l2⟩ := hrel
    by_cases hlt : j < P.length
    · have hg : P[j]? = some P[j] := List.getElem?_eq_getElem hlt
      have ht := pl_take [] hg
      have hfj := HF.out P[j] (List.getElem_mem hlt)
      obtain ⟨q, o, ea, c0, c1, c2⟩ := HP.out.later l2.bel j hlt
      generalize P[j] = p at *
      obtain ⟨k, s, v'⟩ := p
      subst ea
      dsimp only at c0 c1 c2 ht
      have hth := hide ht
      clear ht hg
      go_wp2_with (go_at_call 28; refine (do_b _ _ _ _ _ _ _ hfj _ l2).mono ?_; rintro e w4 ⟨rfl, t4⟩)
      go_round
      case rel => exact ⟨j + 1, by go_num, by omega, by rw [hth.out]; exact t4⟩
      case measure => simp [intOf]; omega
    · obtain rfl : j = P.length := by omega
      rw [List.take_of_length_le (Nat.le_refl _)] at l2
      generalize pl [] P = L at *
      by_cases hv64 : 64 < v.size
      · have hdd : decide ((64 : Int) < (v.size : Int)) = true := by simp; omega
        go_wp2
        clear hdd hv64
        have hz : (v.extract 0 64).size ≤ 64 := by simp [ByteArray.size_extract]; omega
        generalize v.extract 0 64 = x at hz ⊢
        have f0 := fun (k : Int) (hk : 0 ≤ k ∧ k ≤ 1024) => wf_i64 (a := k) (by omega)
        go_loopw [8, 7, 9, 10] (fun i t _ _ wr => ∃ j : Nat, i = .int .i64 (j : Int) ∧ t = .int .i64 (gs L j) ∧ j ≤ 1024 ∧ LedB w.heap.size w wr w.heap.size L) (fun i _ _ _ _ => 1024 - (intOf i).toNat)
        case atStart => exact ⟨0, rfl, rfl, Nat.zero_le _, l2⟩
        case round =>
          obtain ⟨j, rfl, rfl, hj2, l3⟩ := hrel
          by_cases hlt2 : j < 1024
          · obtain ⟨g1, g2, g3, g4⟩ := gs_props L j
            have cg := fun W hW => get_b w.heap.size w w.heap.size L (j : Int) (f0 j (by omega)) W hW
            cases hgj : gv L (j : Int) with
            | none =>
              have hn : gs L (j + 1) = gs L j := by simp [gs, hgj]
              rw [hgj] at cg
              go_wp2_with (go_at_call 29; refine (cg _ l3).mono ?_; rintro e w5 ⟨rfl, b5⟩)
              go_round
              case rel => exact ⟨j + 1, by go_num, by rw [hn], by omega, l3.on b5⟩
              case measure => simp [intOf]; omega
            | some y =>
              have hn : gs L (j + 1) = j := by simp [gs, hgj]
              rw [hgj] at cg
              go_wp2_with (go_at_call 29; refine (cg _ l3).mono ?_; rintro e w5 ⟨rfl, b5⟩)
              go_round
              case rel => exact ⟨j + 1, by go_num, by rw [hn], by omega, l3.on b5⟩
              case measure => simp [intOf]; omega
          · obtain rfl : j = 1024 := by omega
            rw [gs_all hoh.out]
            have hbl := hoh.out.bh_le
            have hb0 := bh_nonneg L
            have hck : ck 2 0 x = 0 := by simp [ck]; omega
            have fx : (⟨2, 0, x⟩ : Opn).fits := ⟨by dsimp only; decide, by dsimp only; decide, by unfold maxLen; dsimp only; omega⟩
            by_cases hfull : bh L = 1024
            · have hwd : wd L 2 0 x = (3, 0, ByteArray.empty) := by simp [wd, hck, hfull]
              have cd := fun W hW => do_b w.heap.size w w.heap.size L 2 0 x fx W hW
              rw [hwd] at cd
              have q1 := fun W => eql_same (3, 0, ByteArray.empty) W
              dsimp only at q1
              rw [hfull]
              go_wp2_with (first | (go_at_call 28; refine (cd _ l3).mono ?_; rintro e w6 ⟨rfl, l6⟩) | (go_at_call 16; refine (works_any _).mono ?_; rintro e w7 ⟨rfl, b7⟩))
              go_ret
              exact ⟨rfl, l6.bel.trans (Below.trans ((Below.refl _ w6).alloc (by have := l6.lt; omega) _) (b7.mono (by have := l6.lt; simp; omega)))⟩
            · have hlt3 : bh L < 1024 := by omega
              have hwd : wd L 2 0 x = (1, bh L, x) := by simp [wd, hck, hlt3]
              have hdn : dn L 2 0 x = ins (bh L, x) L := by simp [dn, hwd]
              have hgx : gv (ins (bh L, x) L) (bh L) = some x := by rw [gv_ins (p := (bh L, x)) (gv_bh L)]; simp
              have cd := fun W hW => do_b w.heap.size w w.heap.size L 2 0 x fx W hW
              have cg := fun W hW => get_b w.heap.size w w.heap.size (ins (bh L, x) L) (bh L) (f0 (bh L) (by omega)) W hW
              rw [hwd, hdn] at cd
              rw [hgx] at cg
              have q1 := fun W => eql_same (1, bh L, x) W
              dsimp only at q1 cd cg
              have hne : (bh L - 1 == 1023) = false := by simp; omega
              have hsum : bh L - 1 + 1 = bh L := by omega
              have hwr : IntKind.i64.wrap (bh L - 1 + 1) = bh L := by rw [hsum]; rw [IntKind.wrap_i64]; omega
              go_wp2_with (first | (go_at_call 28; refine (cd _ l3).mono ?_; rintro e w6 ⟨rfl, l6⟩) | (go_at_call 29; refine (cg _ (l6.on ((Below.refl _ w6).alloc (Nat.le_refl _) _))).mono ?_; rintro e w7 ⟨rfl, b7⟩; have y0 := (b7.cell (p := ⟨w6.heap.size, 0, none⟩) (by simp)).trans (cell3 w6 _ _ _ _).1; have y1 := (b7.cell (p := ⟨w6.heap.size, 1, none⟩) (by simp)).trans (cell3 w6 _ _ _ _).2.1; have y2 := (b7.cell (p := ⟨w6.heap.size, 2, none⟩) (by simp)).trans (cell3 w6 _ _ _ _).2.2))
              go_ret
              exact ⟨rfl, l6.bel.trans (Below.trans ((Below.refl _ w6).alloc (by have := l6.lt; omega) _) (b7.mono (by have := l6.lt; simp; omega)))⟩

      · go_wp2
        have hz : v.size ≤ 64 := by omega
        obtain ⟨x, hx⟩ : ∃ x, x = v := ⟨v, rfl⟩
        subst hx
        have hhh := 0
        have f0 := fun (k : Int) (hk : 0 ≤ k ∧ k ≤ 1024) => wf_i64 (a := k) (by omega)
        go_loopw [8, 7, 9, 10] (fun i t _ _ wr => ∃ j : Nat, i = .int .i64 (j : Int) ∧ t = .int .i64 (gs L j) ∧ j ≤ 1024 ∧ LedB w.heap.size w wr w.heap.size L) (fun i _ _ _ _ => 1024 - (intOf i).toNat)
        case atStart => exact ⟨0, rfl, rfl, Nat.zero_le _, l2⟩
        case round =>
          obtain ⟨j, rfl, rfl, hj2, l3⟩ := hrel
          by_cases hlt2 : j < 1024
          · obtain ⟨g1, g2, g3, g4⟩ := gs_props L j
            have cg := fun W hW => get_b w.heap.size w w.heap.size L (j : Int) (f0 j (by omega)) W hW
            cases hgj : gv L (j : Int) with
            | none =>
              have hn : gs L (j + 1) = gs L j := by simp [gs, hgj]
              rw [hgj] at cg
              go_wp2_with (go_at_call 29; refine (cg _ l3).mono ?_; rintro e w5 ⟨rfl, b5⟩)
              go_round
              case rel => exact ⟨j + 1, by go_num, by rw [hn], by omega, l3.on b5⟩
              case measure => simp [intOf]; omega
            | some y =>
              have hn : gs L (j + 1) = j := by simp [gs, hgj]
              rw [hgj] at cg
              go_wp2_with (go_at_call 29; refine (cg _ l3).mono ?_; rintro e w5 ⟨rfl, b5⟩)
              go_round
              case rel => exact ⟨j + 1, by go_num, by rw [hn], by omega, l3.on b5⟩
              case measure => simp [intOf]; omega
          · obtain rfl : j = 1024 := by omega
            rw [gs_all hoh.out]
            have hbl := hoh.out.bh_le
            have hb0 := bh_nonneg L
            have hck : ck 2 0 x = 0 := by simp [ck]; omega
            have fx : (⟨2, 0, x⟩ : Opn).fits := ⟨by dsimp only; decide, by dsimp only; decide, by unfold maxLen; dsimp only; omega⟩
            by_cases hfull : bh L = 1024
            · have hwd : wd L 2 0 x = (3, 0, ByteArray.empty) := by simp [wd, hck, hfull]
              have cd := fun W hW => do_b w.heap.size w w.heap.size L 2 0 x fx W hW
              rw [hwd] at cd
              have q1 := fun W => eql_same (3, 0, ByteArray.empty) W
              dsimp only at q1
              rw [hfull]
              go_wp2_with (first | (go_at_call 28; refine (cd _ l3).mono ?_; rintro e w6 ⟨rfl, l6⟩) | (go_at_call 16; refine (works_any _).mono ?_; rintro e w7 ⟨rfl, b7⟩))
              go_ret
              exact ⟨rfl, l6.bel.trans (Below.trans ((Below.refl _ w6).alloc (by have := l6.lt; omega) _) (b7.mono (by have := l6.lt; simp; omega)))⟩
            · have hlt3 : bh L < 1024 := by omega
              have hwd : wd L 2 0 x = (1, bh L, x) := by simp [wd, hck, hlt3]
              have hdn : dn L 2 0 x = ins (bh L, x) L := by simp [dn, hwd]
              have hgx : gv (ins (bh L, x) L) (bh L) = some x := by rw [gv_ins (p := (bh L, x)) (gv_bh L)]; simp
              have cd := fun W hW => do_b w.heap.size w w.heap.size L 2 0 x fx W hW
              have cg := fun W hW => get_b w.heap.size w w.heap.size (ins (bh L, x) L) (bh L) (f0 (bh L) (by omega)) W hW
              rw [hwd, hdn] at cd
              rw [hgx] at cg
              have q1 := fun W => eql_same (1, bh L, x) W
              dsimp only at q1 cd cg
              have hne : (bh L - 1 == 1023) = false := by simp; omega
              have hsum : bh L - 1 + 1 = bh L := by omega
              have hwr : IntKind.i64.wrap (bh L - 1 + 1) = bh L := by rw [hsum]; rw [IntKind.wrap_i64]; omega
              go_wp2_with (first | (go_at_call 28; refine (cd _ l3).mono ?_; rintro e w6 ⟨rfl, l6⟩) | (go_at_call 29; refine (cg _ (l6.on ((Below.refl _ w6).alloc (Nat.le_refl _) _))).mono ?_; rintro e w7 ⟨rfl, b7⟩; have y0 := (b7.cell (p := ⟨w6.heap.size, 0, none⟩) (by simp)).trans (cell3 w6 _ _ _ _).1; have y1 := (b7.cell (p := ⟨w6.heap.size, 1, none⟩) (by simp)).trans (cell3 w6 _ _ _ _).2.1; have y2 := (b7.cell (p := ⟨w6.heap.size, 2, none⟩) (by simp)).trans (cell3 w6 _ _ _ _).2.2))
              go_ret
              exact ⟨rfl, l6.bel.trans (Below.trans ((Below.refl _ w6).alloc (by have := l6.lt; omega) _) (b7.mono (by have := l6.lt; simp; omega)))⟩


end Go.Proofs.Ytacalgpdhgpmbaa
