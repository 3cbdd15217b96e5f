import Derived.Test.YtacalgpdhgpmbaaMq
import Derived.Test.YtacalgpdhgpmbaaGLo
namespace Go.Proofs.Ytacalgpdhgpmbaa
open Go.RowKit
open Classical
set_option linter.unusedVariables false

theorem slc_nil (w : World) : SlC w (.slice none 0 0) [] none 0 := ⟨rfl, Nat.le_refl _, by unfold maxLen; omega, fun _ => ⟨rfl, rfl⟩, nofun⟩
theorem Ops.far {w : World} {a : Option Addr} {P : List Opn} (h : Ops w a P) {b : Nat} (hb : w.heap.size ≤ b) : ∀ z, a = some z → P ≠ [] → z.block ≠ b := fun z hz hP => by
  have h0 : 0 < P.length := List.length_pos_iff.2 hP
  obtain ⟨q, o, e, c, _⟩ := h 0 h0
  have := World.block_lt_of_cell? _ _ c
  dsimp only at this
  rw [e] at hz
  cases hz
  dsimp only
  omega
set_option maxRecDepth 100000 in
set_option maxHeartbeats 1000000 in
theorem does_walk (P0 : List Opn) (a0 : Option Addr) (cap0 : Nat) (P1 : List Opn) (a1 : Option Addr) (cap1 : Nat) (P2 : List Opn) (a2 : Option Addr) (cap2 : Nat) (sl : Int) (hs : (Lit.int .i64 sl).wf = true) (w : World)
    (h0 : Ops w a0 P0) (f0 : ∀ p ∈ P0, p.fits) (l0 : P0.length * 32 ≤ 140737488351232) (h1 : Ops w a1 P1) (f1 : ∀ p ∈ P1, p.fits) (l1 : P1.length * 32 ≤ 140737488351232) (h2 : Ops w a2 P2) (f2 : ∀ p ∈ P2, p.fits) (l2 : P2.length * 32 ≤ 140737488351232) :
    Calls Try.prog 4 #[.slice a0 P0.length cap0, .slice a1 P1.length cap1, .slice a2 P2.length cap2, .int .i64 sl] w fun e w' => e = .returned (.bool true) ∧ Below w.heap.size w w' := by
  have H0 := hide h0
  have H1 := hide h1
  have H2 := hide h2
  have F0 := hide f0
  have F1 := hide f1
  have F2 := hide f2
  have HS := hide hs
  clear h0 h1 h2 f0 f1 f2 hs
  go_enter Try.func4, Try.ntmps4
  go_wp2_with fail
  refine (new_any w).mono ?_
  rintro e w1 ⟨rfl, L1, u1, s1⟩
  have s1h := hide s1
  have b1 : Below w.heap.size w w1 := u1.below (Nat.le_refl _) (fun k hk => hk.elim)
  clear s1 u1
  go_wp2_with fail
  refine (asks_any _ none [] none 0 sl HS.out w1 L1 (slc_nil w1)).mono ?_
  rintro e w2 ⟨rfl, b2⟩
  have L2 := L1.upd (S := fun _ => False) (Upd.of_below b2) (fun h => h) (fun _ _ h => h)
  have B2 := b1.trans (b2.mono b1.size)
  clear b1 b2 L1
  go_wp2_with fail
  refine (plays_any _ none [] P0 a0 cap0 none 0 sl HS.out w2 L2 (slc_nil w2) nofun (H0.out.later B2) (H0.out.far (Nat.le_refl _)) F0.out l0).mono ?_
  rintro e w3 ⟨a', c', rfl, ⟨m3, L3, hm3, u3⟩, S3, hz3⟩
  generalize pl [] P0 = C at *
  have B3 : Below w.heap.size w w3 := B2.trans (u3.below B2.size (fun k hk => by
    rcases hk with hk | hk
    · omega
    · cases hk))
  have hm3 : ∀ j, m3 = some j → w.heap.size ≤ j := fun j e => by
    rcases hm3 with h | ⟨i, h, hi⟩
    · rw [h] at e; cases e
    · rw [h] at e; cases e; exact Nat.le_trans B2.size hi
  clear u3 L2
  go_wp2_with fail
  refine (clone_any _ m3 C w3 L3).mono ?_
  rintro e w4 ⟨rfl, ⟨mk, K4, _, hmk, b4⟩⟩
  have L4 := L3.upd (S := fun _ => False) (Upd.of_below b4) (fun h => h) (fun _ _ h => h)
  have B4 := B3.trans (b4.mono B3.size)
  have S4 := S3.later b4
  have hlt3 := L3.lt
  have hml3 : ∀ j, m3 = some j → j < w3.heap.size := fun j e => L3.mlt e
  have hz4 : ∀ z, a' = some z → C ≠ [] → z.block ≠ w3.heap.size := fun z hz hC => by
    rcases S3.at_ z hz with h | ⟨q, o, rfl, hq, _⟩
    · exact absurd h.1 hC
    · exact Nat.ne_of_lt hq
  have hNK : w.heap.size ≠ w3.heap.size := Nat.ne_of_lt hlt3
  have hKw : w.heap.size ≤ w3.heap.size := Nat.le_of_lt hlt3
  have b4h := hide b4.size
  clear L3 S3 b4
  generalize w3.heap.size = k at *
  go_wp2_with fail
  refine (asks_any k mk C a' c' sl HS.out w4 K4 S4).mono ?_
  rintro e w5 ⟨rfl, b5⟩
  have L5 := L4.upd (S := fun _ => False) (Upd.of_below b5) (fun h => h) (fun _ _ h => h)
  have K5 := K4.upd (S := fun _ => False) (Upd.of_below b5) (fun h => h) (fun _ _ h => h)
  have B5 := B4.trans (b5.mono B4.size)
  have S5 := S4.later b5
  clear L4 K4 S4 b5
  go_wp2_with fail
  refine (plays_any k mk C P2 a2 cap2 a' c' sl HS.out w5 K5 S5 hz4 (H2.out.later B5) (H2.out.far hKw) F2.out l2).mono ?_
  rintro e w6 ⟨a6, c6, rfl, T6, _, _⟩
  have S6 := S5.kept (b := k) (T6.keep K5) T6.upd.size hz4
  have L6 := L5.upd T6.upd (fun h => by
    rcases h with h | h
    · exact hNK h
    · have := hmk _ h; omega) (fun j e h => by
    have hj := hml3 j e
    rcases h with h | h
    · omega
    · have := hmk _ h; omega)
  have B6 : Below w.heap.size w w6 := B5.trans (T6.upd.below B5.size (fun i hi => by
    rcases hi with hi | hi
    · omega
    · exact Nat.le_trans hKw (hmk _ hi)))
  clear L5 K5 S5 T6
  go_wp2_with fail
  refine (plays_any _ m3 C P1 a1 cap1 a' c' sl HS.out w6 L6 S6 hz3 (H1.out.later B6) (H1.out.far (Nat.le_refl _)) F1.out l1).mono ?_
  rintro e w7 ⟨a7, c7, rfl, T7, _, _⟩
  have B7 : Below w.heap.size w w7 := B6.trans (T7.upd.below B6.size (fun i hi => by
    rcases hi with hi | hi
    · omega
    · exact hm3 _ hi))
  clear T7 L6 S6
  go_wp2
  go_ret
  exact ⟨rfl, B7⟩
theorem does_came (a0 : Option Addr) (len0 cap0 : Nat) (a1 : Option Addr) (len1 cap1 : Nat) (a2 : Option Addr) (len2 cap2 : Nat) (sl : Int) (W : World) (h0 : CameO W a0 len0 cap0) (h1 : CameO W a1 len1 cap1) (h2 : CameO W a2 len2 cap2) (hs : (Lit.int .i64 sl).wf = true) :
    Calls Try.prog 4 #[.slice a0 len0 cap0, .slice a1 len1 cap1, .slice a2 len2 cap2, .int .i64 sl] W fun e w' => e = .returned (.bool true) ∧ Below W.heap.size W w' := by
  obtain ⟨P0, rfl, p0, f0, l0, _, _⟩ := h0
  obtain ⟨P1, rfl, p1, f1, l1, _, _⟩ := h1
  obtain ⟨P2, rfl, p2, f2, l2, _, _⟩ := h2
  exact does_walk P0 a0 cap0 P1 a1 cap1 P2 a2 cap2 sl hs W p0 f0 l0 p1 f1 l1 p2 f2 l2

end Go.Proofs.Ytacalgpdhgpmbaa
