import Derived.Test.YtilngncjbikkgaaGkm
namespace Go.Proofs.Ytilngncjbikkgaa
open Go.RowKit
set_option linter.unusedVariables false
set_option linter.unusedSimpArgs false

theorem acted_any {W0 w : World} {S T : Nat → Prop} {g g' : Nat} {k : Int} {n : Nat} {R : Int} {rd : Nat → Int} {md : Nat → Nat} {s : Nat → Int} {L : List (Int × Int × Int)} (h : AB W0 w S T g g' k n R rd md s L) (K nd N : Int) (hN : 0 ≤ N ∧ N ≤ 18446744073709551615) (hb : (L.length + 3) * 24 ≤ 140737488355328) :
    Calls Try.prog 7 #[.pointer (some ⟨g, 0, none⟩), .pointer (some ⟨g', 0, none⟩), .agg #[.int .i64 K, .int .i64 nd, .int .u64 N]] w fun e w' => e = .returned (.bool true) ∧ Lft W0 g g' k n (L.length + 1) w' := by
  by_cases k0 : K = 0
  · subst k0; exact acted0 h nd N hN
  by_cases k1 : K = 1
  · subst k1; exact acted1 h nd N hN
  by_cases k2 : K = 2
  · subst k2
    by_cases hi : 0 ≤ nd ∧ nd < (n : Int)
    · exact acted2 h nd N nd.toNat (by omega) (by omega)
    · exact acted2b h nd N hi
  by_cases k3 : K = 3
  · subst k3
    by_cases hi : 0 ≤ nd ∧ nd < (n : Int)
    · obtain ⟨j, rfl⟩ : ∃ j : Nat, nd = (j : Int) := ⟨nd.toNat, by omega⟩
      exact acted3 h N j (by omega) (by omega)
    · exact acted3b h nd N hi
  exact acted4 h K nd N k0 k1 k2 k3 hb
theorem gk_gd9 {w : World} {B g c n : Nat} {p : Nat → Nat} {vs : Value} {R : Int} (h : GK w B g c n p vs R) (h1 : 1 ≤ n) (h7 : n ≤ 7) : ∃ sg cap, GD w w.heap.size g c sg n cap p (.slice none 0 0) R (fun _ => 0) (fun _ => 0) [] ∧ B ≤ sg := by
  rcases h.own.2 with ⟨_, e⟩ | ⟨sg, cap, cur, e1, r1, r2, r3, r4⟩
  · rw [ifs_len] at e; omega
  · rw [ifs_len] at e1 r3
    have hs := World.ownsRow.lt h.own sg (by rw [e1]; rfl)
    have c0 := h.c0
    rw [e1] at c0
    refine ⟨sg, cap, ⟨⟨h.lt, hs.2, c0, h.c1, h.c2, h.f1, r3⟩, fun j hj => ?_, h.pp, h.P, h.C, OwnS.nil _ _, h.inj, fun j hj => ?_, ⟨h.lt, hs.2, h.C.lt⟩, ?_, Nat.le_refl _, h7, fun _ => rfl⟩, r1⟩
    · have := World.ownsRow.cells h.own (g := sg) (by rw [e1]; rfl) j _ (ifs_at 52 p n j hj)
      rw [Addr.add_lit, Nat.zero_add] at this
      exact this
    · have := h.lo j hj
      have := h.gB
      have := h.cB
      refine ⟨by omega, ?_, by omega, by omega⟩
      exact h.ps j sg hj (by rw [e1]; rfl)
    · have := h.gB
      have := h.cB
      have := h.gc
      omega
theorem gkm_gx {w : World} {B g n : Nat} {m : Nat → Nat} {vs : Value} {sd : Int} (h : GKm w B g n m vs sd) (h1 : 1 ≤ n) (h7 : n ≤ 7) : ∃ sg cap, GX2 w w.heap.size g sg n cap m (.slice none 0 0) (sd0 sd) [] ∧ B ≤ sg := by
  rcases h.own.2 with ⟨_, e⟩ | ⟨sg, cap, cur, e1, r1, r2, r3, r4⟩
  · rw [ifs_len] at e; omega
  · rw [ifs_len] at e1 r3
    have hs := World.ownsRow.lt h.own sg (by rw [e1]; rfl)
    have c0 := h.c0
    rw [e1] at c0
    refine ⟨sg, cap, ⟨⟨h.lt, hs.2, c0, h.c1, h.c2, h.pz, h.f1, r3⟩, fun j hj => ?_, h.P, OwnS.nil _ _, h.inj, fun j hj => ?_, ⟨h.lt, hs.2⟩, ?_, Nat.le_refl _, h7, fun _ => rfl⟩, r1⟩
    · have := World.ownsRow.cells h.own (g := sg) (by rw [e1]; rfl) j _ (ifs_at 79 m n j hj)
      rw [Addr.add_lit, Nat.zero_add] at this
      exact this
    · have := h.lo j hj
      have := h.gB
      refine ⟨by omega, ?_, by omega⟩
      exact h.ps j sg hj (by rw [e1]; rfl)
    · have := h.gB
      omega
theorem cgnew_any (k : Int) (hk : k = 1 ∨ k = 2) (n : Nat) (sd : Int) (w : World) (h1 : 1 ≤ n) (h7 : n ≤ 7) (s0 : 0 ≤ sd) (s1 : sd ≤ 18446744073709551615) :
    Calls Try.prog 4 #[.int .i64 k, .int .i64 (n : Int), .int .u64 sd] w fun e w' => ∃ g, e = .returned (.tuple #[.pointer (some ⟨g, 0, none⟩), .int .i64 0]) ∧ CG w' (fun b => w.heap.size ≤ b ∧ b < w'.heap.size) g k n sd (fun _ => 0) (fun _ => 0) (sd0 sd) [] ∧ Below w.heap.size w w' := by
  have a1 : ¬ ((n : Int) < 1) := by omega
  have a2 : ¬ (7 < (n : Int)) := by omega
  rcases hk with rfl | rfl
  · have CG1 := hide (fun v => clockgroup_any n sd v h7 s0 s1)
    go_enter Try.func4, Try.ntmps4
    go_wp2_with fail
    refine (CG1.out _).mono ?_
    rintro e w1 ⟨g, c, B, p, vs, rfl, G, b, hg, hc⟩
    obtain ⟨sg, cap, D, hsg⟩ := gk_gd9 G h1 h7
    have FF : Hid (CG w1 (fun b => w.heap.size ≤ b ∧ b < w1.heap.size) g 1 n sd (fun _ => 0) (fun _ => 0) (sd0 sd) []) := hide ⟨fun b hb => hb.2, .inl ⟨rfl, _, c, sg, cap, p, _, D, fun b hb => And.intro (by
      rcases hb with rfl | rfl | rfl | ⟨j, hj, rfl⟩ | hb
      · exact hg
      · exact hc
      · have := G.gB; omega
      · have := (G.lo j hj).1; have := G.gB; omega
      · cases hb) (D.lt9 hb)⟩⟩
    have BB := hide b
    clear G D b CG1
    go_wp2
    go_ret2
    exact ⟨g, rfl, FF.out, BB.out⟩
  · have CG1 := hide (fun v => mixedgroup_any n sd v h7 s0 s1)
    go_enter Try.func4, Try.ntmps4
    go_wp2_with fail
    refine (CG1.out _).mono ?_
    rintro e w1 ⟨m, vs, rfl, G, b⟩
    obtain ⟨sg, cap, D, hsg⟩ := gkm_gx G h1 h7
    have FF : Hid (CG w1 (fun b => w.heap.size ≤ b ∧ b < w1.heap.size) w.heap.size 2 n sd (fun _ => 0) (fun _ => 0) (sd0 sd) []) := hide ⟨fun b hb => hb.2, .inr ⟨rfl, _, sg, cap, m, _, D, fun b hb => And.intro (by
      rcases hb with rfl | rfl | ⟨j, hj, rfl⟩ | hb
      · exact Nat.le_refl _
      · omega
      · have := (G.lo j hj).1; omega
      · cases hb) (D.lt9 hb)⟩⟩
    have BB := hide b
    clear G D b CG1
    go_wp2
    go_ret2
    exact ⟨w.heap.size, rfl, FF.out, BB.out⟩
theorem cgnew_bad (k m sd : Int) (w : World) (h : ¬ ((k = 1 ∨ k = 2) ∧ 1 ≤ m ∧ m ≤ 7)) :
    Calls Try.prog 4 #[.int .i64 k, .int .i64 m, .int .u64 sd] w fun e w' => e = .returned (.tuple #[.pointer none, .int .i64 3]) ∧ w' = w := by
  by_cases h1 : m < 1
  · go_enter Try.func4, Try.ntmps4
    go_wp2
    go_ret2
    exact ⟨rfl, rfl⟩
  · by_cases h2 : 7 < m
    · go_enter Try.func4, Try.ntmps4
      go_wp2
      go_ret2
      exact ⟨rfl, rfl⟩
    · have k1 : ¬ k = 1 := fun e => h ⟨.inl e, by omega, by omega⟩
      have k2 : ¬ k = 2 := fun e => h ⟨.inr e, by omega, by omega⟩
      have e1 : (k == 1) = false := by simp [k1]
      have e2 : (k == 2) = false := by simp [k2]
      go_enter Try.func4, Try.ntmps4
      go_wp2
      go_ret2
      exact ⟨rfl, rfl⟩
theorem ranew_bad (k m sd : Int) (w : World) (h : ¬ ((k = 1 ∨ k = 2) ∧ 1 ≤ m ∧ m ≤ 7)) :
    Calls Try.prog 5 #[.int .i64 k, .int .i64 m, .int .u64 sd] w fun e w' => e = .returned (.tuple #[.pointer none, .int .i64 3]) ∧ w' = w := by
  by_cases k1 : k = 1
  · subst k1
    by_cases h1 : m < 1
    · go_enter Try.func5, Try.ntmps5
      go_wp2
      go_ret2
      exact ⟨rfl, rfl⟩
    · have h2 : 7 < m := by
        rcases Int.lt_or_le 7 m with h2 | h2
        · exact h2
        · exact absurd ⟨.inl rfl, by omega, h2⟩ h
      go_enter Try.func5, Try.ntmps5
      go_wp2
      go_ret2
      exact ⟨rfl, rfl⟩
  · by_cases k2 : k = 2
    · subst k2
      by_cases h1 : m < 1
      · go_enter Try.func5, Try.ntmps5
        go_wp2
        go_ret2
        exact ⟨rfl, rfl⟩
      · have h2 : 7 < m := by
          rcases Int.lt_or_le 7 m with h2 | h2
          · exact h2
          · exact absurd ⟨.inr rfl, by omega, h2⟩ h
        go_enter Try.func5, Try.ntmps5
        go_wp2
        go_ret2
        exact ⟨rfl, rfl⟩
    · have e1 : (k == 1) = false := by simp [k1]
      have e2 : (k == 2) = false := by simp [k2]
      go_enter Try.func5, Try.ntmps5
      go_wp2
      go_ret2
      exact ⟨rfl, rfl⟩

/-- Acts that came in. -/
def CameB (W : World) (a : Option Addr) (len cap : Nat) : Prop := len ≤ cap ∧ cap * 24 ≤ 140737488351232 ∧ ∀ i, i < len → ∃ q o K nd N, a = some ⟨q, o, none⟩ ∧ q < W.heap.size ∧ W.cell? ⟨q, o + i * 3, none⟩ = some (.int .i64 K) ∧ W.cell? ⟨q, o + i * 3 + 1, none⟩ = some (.int .i64 nd) ∧ W.cell? ⟨q, o + i * 3 + 2, none⟩ = some (.int .u64 N) ∧ 0 ≤ N ∧ N ≤ 18446744073709551615
set_option maxRecDepth 100000 in
set_option maxHeartbeats 4000000 in
set_option maxHeartbeats 400000 in
/-- Two draws at one reading, from a clock that has passed. -/
theorem works9_any (w : World) :
    Calls Try.prog 6 #[] w fun e w' => e = .returned (.bool true) ∧ Below w.heap.size w w' := by
  have hf := w.heap.size.lt_irrefl
  go_enter Try.func6, Try.ntmps6
  go_wp2_with fail
  refine (newclock_any _ _).mono ?_
  rintro e w1 ⟨rfl, hw1⟩
  have c1 : Clk w1 w.heap.size 5 := hw1 ▸ Clk.new 5 w (by omega) (by omega)
  have b1 : Below w.heap.size w w1 := hw1 ▸ (Below.refl _ _).alloc (Nat.le_refl _) _
  clear hw1
  go_wp2_with fail
  refine (newpairs_any _ _).mono ?_
  rintro e w2 ⟨rfl, hw2⟩
  have u2 : Upd (fun _ => False) w1 w2 := hw2 ▸ (Upd.refl _ _).alloc _
  have p2 : Prs w2 w1.heap.size w.heap.size 0 0 := hw2 ▸ Prs.new _ _ c1.lt
  have c2 : Clk w2 w.heap.size 5 := c1.upd u2 id
  have b2 : Below w.heap.size w w2 := b1.trans (u2.below b1.size (fun _ h => h.elim))
  clear hw2
  have hne := p2.ne
  go_wp2_with fail
  refine (pass_ok _ 5 2 _ c2 (by omega) (by omega)).mono ?_
  rintro e w3 ⟨rfl, c3, u3⟩
  rw [show (5 : Int) + 2 = 7 from by decide] at c3
  have p3 := p2.upd u3 hne.symm
  have b3 : Below w.heap.size w w3 := b2.trans (u3.below b2.size (by rintro k rfl; exact Nat.le_refl _))
  go_wp2_with fail
  refine (now_any _ _ _ c3).mono ?_
  rintro e w4 ⟨rfl, rfl⟩
  go_wp2_with fail
  refine (draw_ok _ _ 7 0 0 _ p3 c3 (by decide)).mono ?_
  rintro e w5 ⟨rfl, p5, u5⟩
  rw [show made 7 0 0 + 1 = 1 from by decide] at p5 ⊢
  have c5 := c3.upd u5 hne
  have b5 : Below w.heap.size w w5 := b3.trans (u5.below b3.size (by rintro k rfl; exact b1.size))
  clear u5 p3
  go_wp2_with fail
  refine (draw_ok _ _ 7 7 1 _ (p5.upd (S := fun _ => False) ((Upd.refl _ _).alloc _) id) (c5.upd (S := fun _ => False) ((Upd.refl _ _).alloc _) id) (by decide)).mono ?_
  rintro e w6 ⟨rfl, p6, u6⟩
  rw [show made 7 7 1 + 1 = 2 from by decide] at p6 ⊢
  have l5 := p5.lt
  have a0 : w6.cell? ⟨w5.heap.size, 0, none⟩ = some (.int .u64 7) := (u6.cell (p := ⟨w5.heap.size, 0, none⟩) (by simp) (by show ¬ w5.heap.size = w1.heap.size; omega)).trans (by simp)
  have a1 : w6.cell? ⟨w5.heap.size, 1, none⟩ = some (.int .u64 1) := (u6.cell (p := ⟨w5.heap.size, 1, none⟩) (by simp) (by show ¬ w5.heap.size = w1.heap.size; omega)).trans (by simp)
  have b6 : Below w.heap.size w w6 := (b5.alloc b5.size _).trans (u6.below (by have := b5.size; simp; omega) (by rintro k rfl; exact b1.size))
  have l6 : w5.heap.size < w6.heap.size := by have := u6.size; simp at this; omega
  have a2 : ∀ o, (w6.alloc o).cell? ⟨w5.heap.size, 0, none⟩ = some (.int .u64 7) := fun o => (World.cell?_alloc_past _ _ _ l6).trans a0
  have a3 : ∀ o, (w6.alloc o).cell? ⟨w5.heap.size, 1, none⟩ = some (.int .u64 1) := fun o => (World.cell?_alloc_past _ _ _ l6).trans a1
  clear u6 p5 p6 c5 c3 p2 c2
  go_wp2
  go_ret
  exact ⟨rfl, b6.alloc b6.size _⟩
theorem groups_walk (k m sd : Int) (a : Option Addr) (len cap : Nat) (W : World) (s0 : 0 ≤ sd) (s1 : sd ≤ 18446744073709551615) (hC : CameB W a len cap) :
    Calls Try.prog 3 #[.int .i64 k, .int .i64 m, .int .u64 sd, .slice a len cap] W fun e w' => e = .returned (.bool true) ∧ Below W.heap.size W w' := by
  by_cases hv : (k = 1 ∨ k = 2) ∧ 1 ≤ m ∧ m ≤ 7
  · obtain ⟨hk, hm1, hm7⟩ := hv
    obtain ⟨n, rfl⟩ : ∃ n : Nat, m = (n : Int) := ⟨m.toNat, by omega⟩
    have HC := hide hC
    obtain ⟨hl, hcap, hall⟩ := hC
    clear hall
    go_enter Try.func3, Try.ntmps3
    go_wp2_with fail
    refine (cgnew_any k hk n sd W (by omega) (by omega) s0 s1).mono ?_
    rintro e w1 ⟨g, rfl, cg, b1⟩
    go_wp2_with fail
    refine (refnew_any k hk n sd w1 (by omega) (by omega) s0 s1).mono ?_
    rintro e w2 ⟨rfl, pg, mg, cp, cm, ⟨rg, hpg, hmg⟩, b2⟩
    have z1 := b1.size
    have z2 := b2.size
    have H0 : Hid (AB W w2 (fun b => W.heap.size ≤ b ∧ b < w1.heap.size) (fun b => w1.heap.size ≤ b ∧ b < w2.heap.size) g w1.heap.size k n sd (fun _ => 0) (fun _ => 0) (sd0 sd) []) := by
      refine ⟨cg.upd (U := fun _ => False) (Upd.of_below b2) (fun _ _ => id), ⟨fun b hb => hb.2, _, pg, mg, cp, cm, _, _, rg, fun b hb => And.intro ?_ (rgb_lt rg hb)⟩, fun b h1 h2 => by omega, fun b hb => by rcases hb with hb | hb <;> omega, b1.trans (b2.mono z1), hk⟩
      rcases hb with rfl | rfl | rfl | hb | ⟨j, hj, hb⟩
      · exact Nat.le_refl _
      · exact hpg
      · exact hmg
      · cases hb
      · cases hb
    clear cg rg hpg hmg b1 b2
    go_wp2
    go_loopw [13] (fun vi wr => ∃ (i : Nat) (S T : Nat → Prop) (R : Int) (rd : Nat → Int) (md : Nat → Nat) (s : Nat → Int) (L : List (Int × Int × Int)), vi = .int .i64 (i : Int) ∧ i ≤ len ∧ Hid (AB W wr S T g w1.heap.size k n R rd md s L ∧ L.length ≤ i)) (fun vi _ => len - (intOf vi).toNat)
    case atStart => exact ⟨0, _, _, _, _, _, _, _, rfl, Nat.zero_le _, H0.out, Nat.le_refl _⟩
    case round =>
      obtain ⟨i, S, T, R, rd, md, s, L, rfl, hi, H⟩ := hrel
      have hL := H.out.2
      have B := H.out.1.bel
      by_cases hin : i < len
      · obtain ⟨q, o, K, nd, N, rfl, hq, c0, c1, c2, n0, n1⟩ := HC.out.2.2 i hin
        have c0 := (B.cell (p := ⟨q, o + i * 3, none⟩) hq).trans c0
        have c1 := (B.cell (p := ⟨q, o + i * 3 + 1, none⟩) hq).trans c1
        have c2 := (B.cell (p := ⟨q, o + i * 3 + 2, none⟩) hq).trans c2
        clear B
        have hi9 : i < 140737488351232 := by omega
        go_wp2_with fail
        refine (acted_any H.out.1 K nd N ⟨n0, n1⟩ (by omega)).mono ?_
        rintro e w3 ⟨rfl, S', T', R', rd', md', s', L', h', hl'⟩
        have H' := hide (And.intro h' hl')
        clear h' hl' c0 c1 c2 H
        go_wp2
        go_roundw
        case rel => exact ⟨i + 1, S', T', R', rd', md', s', L', by go_num, by omega, H'.out.1, by have := H'.out.2; omega⟩
        case measure => simp [intOf]; omega
      · obtain rfl : i = len := by omega
        clear B
        go_wp2_with fail
        refine (acted_any H.out.1 3 0 0 ⟨by omega, by omega⟩ (by omega)).mono ?_
        rintro e w3 ⟨rfl, S3, T3, R3, rd3, md3, s3, L3, h3, hl3⟩
        have H3 := hide (And.intro h3 hl3)
        clear h3 hl3
        go_wp2_with fail
        refine (acted_any H3.out.1 9 0 0 ⟨by omega, by omega⟩ (by have := H3.out.2; omega)).mono ?_
        rintro e w4 ⟨rfl, S4, T4, R4, rd4, md4, s4, L4, h4, hl4⟩
        have H4 := hide (And.intro h4 hl4)
        clear h4 hl4
        go_wp2_with fail
        refine (acted_any H4.out.1 9 0 0 ⟨by omega, by omega⟩ (by have := H3.out.2; have := H4.out.2; omega)).mono ?_
        rintro e w5 ⟨rfl, S5, T5, R5, rd5, md5, s5, L5, h5, hl5⟩
        have B5 := hide h5.bel
        clear h5 hl5
        go_wp2
        go_ret
        exact ⟨rfl, B5.out⟩
  · clear hC
    go_enter Try.func3, Try.ntmps3
    go_wp2_with fail
    refine (cgnew_bad k m sd W hv).mono ?_
    rintro e w1 ⟨rfl, rfl⟩
    go_wp2_with fail
    refine (ranew_bad k m sd w1 hv).mono ?_
    rintro e w2 ⟨rfl, hw2⟩
    subst hw2
    go_wp2_with fail
    refine (works9_any _).mono ?_
    rintro e w3 ⟨rfl, b3⟩
    go_wp2
    go_ret
    exact ⟨rfl, b3⟩

end Go.Proofs.Ytilngncjbikkgaa
