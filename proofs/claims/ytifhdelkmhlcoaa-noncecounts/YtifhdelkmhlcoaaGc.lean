import Derived.Test.YtifhdelkmhlcoaaGd
namespace Go.Proofs.Ytifhdelkmhlcoaa
open Go.RowKit
set_option linter.unusedVariables false

/-- k draws of a group of one replica, all at one reading. -/
def GC (B : Nat) (w0 w : World) (g c sg cap p : Nat) (R : Int) (k : Nat) : Prop :=
  ∃ vd rd md L, Gr w g sg 1 cap c vd ∧ At w sg 0 p ∧ Prs w p c rd md ∧ Clk w c R ∧ OwnS B w vd L ∧ L.length = k ∧ made R rd md = k ∧ (∀ j, k = j + 1 → L[j]? = some (0, R, (k : Int))) ∧ Below w0.heap.size w0 w ∧ B ≤ w.heap.size ∧ ∀ q, vd.ownBlock = some q → B ≤ q

theorem GC.next {B : Nat} {w0 w : World} {g c sg cap p : Nat} {R : Int} {k : Nat} (h : GC B w0 w g c sg cap p R k) (gB : g < B) (sB : sg < B) (pB : p < B) (cB : c < B) (hgp : g ≠ p) (hsp : sg ≠ p) (hk : k < 65535) (h0 : w0.heap.size ≤ g) (h1 : w0.heap.size ≤ p) (hB : w0.heap.size ≤ B) :
    Calls Try.prog 41 #[.pointer (some ⟨g, 0, none⟩), .int .i64 0] w fun e w' => e = .returned (.tuple #[.agg #[.int .u64 R, .int .u64 ((k + 1 : Nat) : Int)], .int .i64 0]) ∧ GC B w0 w' g c sg cap p R (k + 1) ∧ w.heap.size ≤ w'.heap.size := by
  obtain ⟨vd, rd, md, L, G, A, P, C, o, hl, hm, hlast, hb, hz, hq⟩ := h
  have hsg : sg ≠ g := by
    rintro rfl
    have e1 := G.c0
    have e2 : w.cell? ⟨sg, 0, none⟩ = _ := A
    rw [e1] at e2
    cases e2
  have hcg : c ≠ g := by
    rintro rfl
    have e1 := G.c0
    have e2 := C.c0
    rw [e1] at e2
    cases e2
  have hcp := P.ne
  have H := gdraw_ok B g sg 1 cap 0 p c R rd md vd L w G (by omega) (by omega) A P C o (by rw [hm]; omega) (by omega) hgp hsp gB sB pB cB hz
  rw [show (((0 : Nat) : Int)) = 0 from rfl, hm] at H
  refine H.mono ?_
  rintro e w' ⟨rfl, P', vd', G', o', hv', u'⟩
  have hnv : ∀ q, q < B → ¬ vd.ownBlock = some q := fun q hq1 hq2 => by have := hq q hq2; omega
  refine ⟨by simp, ⟨vd', R, (k : Int) + 1, L ++ [(0, R, (k : Int) + 1)], G', A.upd u' G.slt ?_, P', C.upd u' ?_, o', by simp [hl], ?_, ?_, ?_, Nat.le_trans hz u'.size, ?_⟩, u'.size⟩
  · rintro (h | h | h)
    · exact hsp h
    · exact hsg h
    · exact hnv _ sB h
  · rintro (h | h | h)
    · exact hcp h
    · exact hcg h
    · exact hnv _ cB h
  · unfold made
    rw [if_pos rfl]
    omega
  · intro j hj
    have : j = L.length := by omega
    subst this
    simp
  · refine hb.trans (u'.below hb.size ?_)
    rintro q (h | h | h)
    · omega
    · omega
    · have := hq q h; omega
  · intro q hq2
    rcases hv' with h | ⟨q', h, h2⟩
    · exact hq q (h ▸ hq2)
    · rw [h] at hq2; cases hq2; omega
theorem GC.up {B : Nat} {w0 w w' : World} {g c sg cap p : Nat} {R : Int} {k : Nat} (h : GC B w0 w g c sg cap p R k) (u : Below w.heap.size w w') : GC B w0 w' g c sg cap p R k := by
  obtain ⟨vd, rd, md, L, G, A, P, C, o, hl, hm, hlast, hb, hz, hq⟩ := h
  have u' : Upd (fun _ => False) w w' := Upd.of_below u
  exact ⟨vd, rd, md, L, G.upd u' id, A.upd u' G.slt id, P.upd u' id, C.upd u' id, o.upd u' (fun _ _ => id), hl, hm, hlast, hb.trans (u.mono hb.size), Nat.le_trans hz u.size, hq⟩

set_option maxRecDepth 100000 in
set_option maxHeartbeats 800000 in
theorem groupcounts_any (R : Int) (w : World) (h0 : 0 ≤ R) (h1 : R ≤ 18446744073709551615) :
    Calls Try.prog 21 #[.int .u64 R] w fun e w' => e = .returned (.bool true) ∧ Below w.heap.size w w' := by
  go_enter Try.func21, Try.ntmps21
  go_wp2_with fail
  refine (newgroup_one R _ h0 h1).mono ?_
  rintro e w1 ⟨g, c, rfl, ⟨sg, cap, p, G, A, P, C, hgp, hsp, hp0⟩, b1, hg0, hc0⟩
  have I0 : GC w1.heap.size w w1 g c sg cap p R 0 := ⟨_, _, _, [], G, A, P, C, OwnS.nil _ _, rfl, by unfold made; split <;> rfl, fun j hj => by omega, b1, Nat.le_refl _, fun q hq => by cases hq⟩
  have gB := G.lt
  have sB := G.slt
  have pB := P.lt
  have cB := C.lt
  clear G A P C b1
  generalize hB : w1.heap.size = B at *
  have hw0 : w.heap.size ≤ B := by omega
  go_wp2
  go_loopw [5] (fun i wr => ∃ k : Nat, k ≤ 65535 ∧ i = .int .i64 ((k + 1 : Nat) : Int) ∧ GC B w wr g c sg cap p R k) (fun i _ => 65536 - (intOf i).toNat)
  case atStart => exact ⟨0, by omega, rfl, I0⟩
  case round =>
    obtain ⟨k, hk, rfl, I⟩ := hrel
    clear I0
    by_cases hlt : k < 65535
    · have H := I.next gB sB pB cB hgp hsp hlt hg0 hp0 hw0
      have hd0 : ((k + 1 : Nat) : Int) ≤ 65535 := by omega
      have HK := hide hk
      have HLT := hide hlt
      clear hk hlt I
      generalize hn : k + 1 = n at *
      have HN := hide hn
      clear hn
      have hd : decide ((n : Int) ≤ 65535) = true := decide_eq_true hd0
      have hn0 : (0 : Int) ≤ (n : Int) := by omega
      go_wp2_with fail
      refine H.mono ?_
      rintro e w2 ⟨rfl, I2, z2⟩
      have I3 := I2.up ((Below.refl _ _).alloc (Nat.le_refl _) (.cells #[.int .u64 R, .int .u64 (n : Int)] 24))
      clear H I2
      go_wp2
      go_round
      case rel => exact ⟨n, by omega, by go_num, I3⟩
      case measure => simp [intOf]; omega
    · obtain rfl : k = 65535 := by omega
      obtain ⟨vd, rd, md, L, G, A, P, C, o, hl, hm, hlast, hb, hz, hq⟩ := I
      have hx := hlast 65534 rfl
      have H := gdraw_end g sg 1 cap 0 p c R rd md vd wr G (by omega) (by omega) A P C hm
      rw [show (((0 : Nat) : Int)) = 0 from rfl] at H
      have G1 := G
      clear A P C hm hlast hlt hk
      go_wp2_with fail
      refine H.mono ?_
      rintro e w2 ⟨rfl, b2⟩
      have u2 : Upd (fun _ => False) wr w2 := Upd.of_below b2
      have u3 := u2.alloc (.cells #[.int .u64 0, .int .u64 0] 24)
      have G3 := G1.upd u3 id
      have o3 := o.upd u3 (fun _ _ => id)
      have D3 := Dr.new w2 0 0 24
      have b3 : Below w.heap.size w (w2.alloc (.cells #[.int .u64 0, .int .u64 0] 24)) := hb.trans (u3.below hb.size (fun _ h => h.elim))
      have D := drawn_any B g sg 1 cap c vd L _ G3 o3 (by intro e; rw [e] at hl; cases hl) (by omega)
      clear H G G1 u2 u3 G3 o3 o b2
      go_wp2_with fail
      refine D.mono ?_
      rintro e w4 ⟨v4, rfl, o4, b4⟩
      have D4 := D3.bel b4
      have bw := b3.trans (b4.mono b3.size)
      obtain ⟨a4, c4, rfl, hc4, hc5, hn4, hx4⟩ := o4.form
      rw [hl] at hc4
      rw [hl] at o4 ⊢
      cases a4 with
      | none => have := (hn4 rfl).1; rw [this] at hl; cases hl
      | some x =>
        obtain ⟨q, rfl, _, _⟩ := hx4 x rfl
        obtain ⟨e0, e1, e2⟩ := o4.cell 65534 _ hx
        obtain ⟨_, d0, d1⟩ := D4
        have e0' : w4.cell? ⟨q, 196602, none⟩ = some (.int .i64 0) := e0
        have e1' : w4.cell? ⟨q, 196603, none⟩ = some (.int .u64 R) := e1
        have e2' : w4.cell? ⟨q, 196604, none⟩ = some (.int .u64 65535) := e2
        clear e0 e1 e2 hn4 hx4 o4 D D3 b3 b4 hx hl
        go_wp2
        go_ret
        exact ⟨rfl, bw⟩

end Go.Proofs.Ytifhdelkmhlcoaa
