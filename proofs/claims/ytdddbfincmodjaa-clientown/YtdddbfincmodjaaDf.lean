import Derived.Test.YtdddbfincmodjaaDe
namespace Go.Proofs.Ytdddbfincmodjaa
open Go.RowKit Go.Maps
open Classical
set_option linter.unusedVariables false
set_option linter.unusedSimpArgs false

theorem samerows' (D : List Rw) (a1 a2 : Option Addr) (n m c1 c2 : Nat) (w : World) (h1 : SlY yR w a1 n c1 D) (h2 : SlY yR w a2 m c2 D) :
    Calls Try.prog 13 #[.slice a1 n c1, .slice a2 m c2] w fun e w' => e = .returned (.bool true) ∧ ∃ n, w' = w.drewN n := by
  obtain rfl := h1.len
  obtain rfl := h2.len
  exact samerows_any D a1 a2 c1 c2 w h1 h2
theorem num_any (e : Int) (w : World) : Calls Try.prog 12 #[.int .i64 e] w fun r w' => r = .returned (.int .i64 e) ∧ w' = w := by
  go_enter Try.func12, Try.ntmps12
  go_wp2
  go_ret
  exact ⟨rfl, rfl⟩
theorem write_any (s : Int) (v : ByteArray) (w : World) : Calls Try.prog 26 #[.int .i64 s, .string v] w fun r w' => r = .returned (.agg #[.int .i64 1, .int .i64 s, .string v]) ∧ Below w.heap.size w w' := by
  go_enter Try.func26, Try.ntmps26
  go_wp2
  exact bodyPost_ret (v := .agg #[.int .i64 1, .int .i64 s, .string v]) (by simp [results, Try.results26, go_sem]) rfl ⟨rfl, (Below.refl _ _).alloc (Nat.le_refl _) _⟩
def thrL : List En := [⟨1, 1, ⟨1, 7, ⟨#[97]⟩⟩⟩, ⟨2, 5, ⟨1, 7, ⟨#[98]⟩⟩⟩, ⟨1, 2, ⟨3, 7, ByteArray.empty⟩⟩]
theorem thr_fits : ∀ e ∈ thrL, e.fits := by
  intro e he
  simp [thrL] at he
  rcases he with rfl | rfl | rfl
  · exact ⟨rfl, rfl, rfl, rfl, by show 1 ≤ maxLen; unfold maxLen; omega⟩
  · exact ⟨rfl, rfl, rfl, rfl, by show 1 ≤ maxLen; unfold maxLen; omega⟩
  · exact ⟨rfl, rfl, rfl, rfl, by show 0 ≤ maxLen; omega⟩
def thrT : List Rw := [⟨1, 2, 3, false, zR⟩, ⟨2, 5, 2, true, (2, 7, ⟨#[97]⟩)⟩]
theorem thr_ck : ckB thrL 0 2 = 0 := by decide +kernel
theorem thr_tb : tbl thrL 2 = thrT := by kernel_rfl
set_option maxRecDepth 100000 in
set_option maxHeartbeats 1000000 in
theorem three_any (w : World) : Calls Try.prog 37 #[] w fun r w' => ∃ g, r = .returned (.slice (some ⟨g, 0, none⟩) 3 3) ∧ SlY yE w' (some ⟨g, 0, none⟩) 3 3 thrL ∧ Below w.heap.size w w' := by
  go_enter Try.func37, Try.ntmps37
  go_wp2_with fail
  refine (write_any 7 ⟨#[97]⟩ w).mono ?_
  rintro e w1 ⟨rfl, b1⟩
  have z1 := b1.size
  go_wp2_with fail
  refine (write_any 7 ⟨#[98]⟩ w1).mono ?_
  rintro e w2 ⟨rfl, b2⟩
  have z2 := b2.size
  have SB := hide (sl_lit kE w2 thrL 61 (by unfold maxLen thrL; simp))
  have BB := hide ((b1.trans (b2.mono z1)).alloc (by omega) (.cells (fl yE thrL).toArray 61))
  clear b1 b2
  go_wp2
  go_ret
  exact ⟨_, rfl, SB.out, BB.out⟩
set_option maxRecDepth 100000 in
set_option maxHeartbeats 1000000 in
theorem alive_any (w : World) : Calls Try.prog 15 #[] w fun r w' => r = .returned (.bool true) ∧ Below w.heap.size w w' := by
  go_enter Try.func15, Try.ntmps15
  go_wp2_with fail
  refine (three_any w).mono ?_
  rintro e w1 ⟨g, rfl, s1, b1⟩
  have z1 := b1.size
  have ct := table_any thrL (some ⟨g, 0, none⟩) 3 2 w1 s1 thr_fits
  rw [thr_ck, thr_tb] at ct
  have ct : Calls Try.prog 9 #[.slice (some ⟨g, 0, none⟩) 3 3, .int .i64 2] w1 fun e w' => ∃ v, e = .returned (.tuple #[v, .int .i64 0]) ∧ OwnY yR w1.heap.size w' v thrT ∧ Below w1.heap.size w1 w' := ct
  clear s1
  go_wp2_with fail
  refine ct.mono ?_
  rintro e w2 ⟨v2, rfl, o2, b2⟩
  have z2 := b2.size
  obtain ⟨a2, c2, rfl, s2, _⟩ := o2.sl kR
  have BB := hide (b1.trans (b2.mono z1))
  have S2 := hide s2
  have SB := hide (sl_lit kR w2 thrT 57 (by unfold maxLen thrT; simp))
  have S3 := hide (s2.later ((Below.refl _ w2).alloc (Nat.le_refl _) (.cells (fl yR thrT).toArray 57)))
  have cs := samerows' thrT a2 (some ⟨w2.heap.size, 0, none⟩) 2 2 c2 2 _ S3.out SB.out
  have CS := hide cs
  clear b1 b2 ct o2 s2 cs S2
  go_wp2_with (first
    | (go_at_call 12; refine (num_any _ _).mono ?_; rintro e w3 ⟨rfl, rfl⟩)
    | (go_at_call 13; refine CS.out.mono ?_; rintro e w4 ⟨rfl, n4, rfl⟩))
  go_ret
  exact ⟨rfl, belN (BB.out.alloc (by omega) _) n4⟩

end Go.Proofs.Ytdddbfincmodjaa
