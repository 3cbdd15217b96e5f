import Derived.Test.YtnodhappbknclabSd
import Derived.Test.YtnodhappbknclabMat3
namespace Go.Proofs.Ytnodhappbknclab
open Go.RowKit
set_option linter.unusedVariables false

theorem Own.stored {B : Nat} {w : World} {g n c : Nat} {l : List Int} (h : Own B w (.slice (some ⟨g, 0, none⟩) n c) l) (k : Nat) (z : Int) : Own B (w.setCell ⟨g, k, none⟩ (.int .u8 z)) (.slice (some ⟨g, 0, none⟩) n c) (l.set k z) := by
  have hn : n = l.length := by
    rcases h.2 with ⟨h1, _⟩ | ⟨_, _, _, h1, _⟩
    · cases h1
    · cases h1; rfl
  subst hn
  have := (World.ownsRow.stored h k (.int .u8 z)).1
  unfold Own
  rw [List.length_set, show bs (l.set k z) = (bs l).set k (.int .u8 z) from by simp [bs, List.map_set]]
  exact this
theorem Own.soft {B : Nat} {w : World} {g n c : Nat} {l : List Int} (h : Own B w (.slice (some ⟨g, 0, none⟩) n c) l) (k : Nat) : w.frozen? ⟨g, k, none⟩ = false := by
  rcases h.2 with ⟨h1, _⟩ | ⟨_, _, cur, h1, _, h2, _⟩
  · cases h1
  · cases h1
    simp [World.frozen?, h2]
theorem opErr_zero {f : List Int} (h : opErr f = 0) : outErr f = 0 ∧ M.sum (f.take (f.length - 4)) = M.rl (f.drop (f.length - 4)) := by
  have hout : outErr f = 0 := by
    by_cases h1 : outErr f = 0
    · exact h1
    · rw [opErr_out h1] at h; exact absurd h h1
  refine ⟨hout, ?_⟩
  by_cases h1 : M.sum (f.take (f.length - 4)) = M.rl (f.drop (f.length - 4))
  · exact h1
  · rw [opErr_sum hout h1] at h; cases h
theorem told_burst (f g : List Int) (hf : ∀ z ∈ f, 0 ≤ z ∧ z < 256) (hg : ∀ z ∈ g, 0 ≤ z ∧ z < 256) (hl : g.length = f.length) (ef : opErr f = 0) (m i : Nat) (hm : m < 4294967296) (hi : i < 8 * f.length) (hx : M.rl g = M.rl f ^^^ (m <<< i)) (h0 : m ≠ 0) : opErr g ≠ 0 := by
  intro eg
  obtain ⟨o1, s1⟩ := opErr_zero ef
  obtain ⟨o2, s2⟩ := opErr_zero eg
  have := (outErr_range o1).1
  exact h0 (M.burst f g hf hg hl (by omega) s1 s2 m i hm hi hx)
theorem bit_test (m k : Nat) (hm : m < 4294967296) : (bits .and .u32 ((m : Int) / 2 ^ k) 1 == 1) = decide (m / 2 ^ k % 2 = 1) := by
  have e1 : ((m : Int) / 2 ^ k) = ((m / 2 ^ k : Nat) : Int) := by simp
  have h1 : m / 2 ^ k < 4294967296 := Nat.lt_of_le_of_lt (Nat.div_le_self _ _) hm
  have e2 : bits .and .u32 ((m / 2 ^ k : Nat) : Int) 1 = ((m / 2 ^ k &&& 1 : Nat) : Int) := u32_and_nat _ 1 h1 (by omega)
  rw [e1, e2, Nat.and_one_is_mod]
  have h2 : m / 2 ^ k % 2 < 2 := Nat.mod_lt _ (by omega)
  generalize m / 2 ^ k % 2 = b at *
  match b, h2 with
  | 0, _ | 1, _ => rfl

theorem Own.base {B B' : Nat} {w : World} {v : Value} {l : List Int} (h : Own B w v l) (hB : B' ≤ B) : Own B' w v l := by
  refine ⟨h.1, ?_⟩
  rcases h.2 with h2 | ⟨g, c, cur, h1, h2, r⟩
  · exact Or.inl h2
  · exact Or.inr ⟨g, c, cur, h1, Nat.le_trans hB h2, r⟩
theorem u32_wf {a : Int} (h : (Lit.int .u32 a).wf = true) : 0 ≤ a ∧ a < 4294967296 := by
  simp [Lit.wf, IntKind.min, IntKind.max, IntKind.bits, IntKind.signed] at h
  omega
theorem i64_wf {a : Int} (h : (Lit.int .i64 a).wf = true) : -9223372036854775808 ≤ a ∧ a ≤ 9223372036854775807 := by
  simp [Lit.wf, IntKind.min, IntKind.max, IntKind.bits, IntKind.signed] at h
  omega
/-- Has one of the mask's first k bits been turned? -/
def chB (m k : Nat) : Bool := decide (m % 2 ^ k ≠ 0)
theorem chB_turn (m k : Nat) (hb : m / 2 ^ k % 2 = 1) : chB m (k + 1) = true := by
  unfold chB
  rw [decide_eq_true_iff]
  intro h
  rw [M.mask_succ, hb, M.shl_one] at h
  have h1 := M.xor_zero_eq h
  have h2 : m % 2 ^ k < 2 ^ k := Nat.mod_lt _ (Nat.pow_pos (by omega))
  omega
theorem chB_skip (m k : Nat) (hb : m / 2 ^ k % 2 = 0) : chB m (k + 1) = chB m k := by
  unfold chB
  rw [M.mask_succ, hb]
  simp
theorem store_val (z : Int) (j : Nat) (hj : j < 8) (h0 : 0 ≤ z) (h1 : z < 256) : bits .xor .u8 z (2 ^ j % 256) = ((z.toNat ^^^ 2 ^ j : Nat) : Int) := by
  have hp : 2 ^ j < 2 ^ 8 := Nat.pow_lt_pow_right (by omega) hj
  have e : ((2 : Int) ^ j % 256) = ((2 ^ j : Nat) : Int) := by
    have : ((2 : Int) ^ j) = ((2 ^ j : Nat) : Int) := by simp
    rw [this]
    clear this
    revert hp
    generalize 2 ^ j = q
    intro hp
    omega
  obtain ⟨n, rfl⟩ := Int.eq_ofNat_of_zero_le h0
  rw [e, u8_xor_nat n (2 ^ j) (by omega) (by omega)]
  rfl
theorem rl_inj (f g : List Int) (hf : ∀ z ∈ f, 0 ≤ z ∧ z < 256) (hg : ∀ z ∈ g, 0 ≤ z ∧ z < 256) (hl : g.length = f.length) (h : M.rl g = M.rl f) : g = f := by
  induction f generalizing g with
  | nil => exact List.eq_nil_of_length_eq_zero hl
  | cons z r ih =>
    cases g with
    | nil => simp at hl
    | cons y q =>
      have h1 := hf z (by simp)
      have h2 := hg y (by simp)
      simp only [M.rl] at h
      have e1 : y = z := by omega
      have e2 : M.rl q = M.rl r := by omega
      rw [e1, ih q (fun x hx => hf x (by simp [hx])) (fun x hx => hg x (by simp [hx])) (by simpa using hl) e2]
/-- The law's loop behind k rounds: the frame's bytes with the mask's first k bits turned. -/
structure Turned (B : Nat) (w0 w : World) (g n c : Nat) (F : List Int) (i m k : Nat) (G : List Int) : Prop where
  own : Own B w (.slice (some ⟨g, 0, none⟩) n c) G
  bel : Below B w0 w
  len : G.length = n
  byte : ∀ z ∈ G, 0 ≤ z ∧ z < 256
  num : M.rl G = M.rl F ^^^ ((m % 2 ^ k) <<< i)
theorem Turned.skip {B : Nat} {w0 w : World} {g n c : Nat} {F : List Int} {i m k : Nat} {G : List Int} (h : Turned B w0 w g n c F i m k G) (hb : m / 2 ^ k % 2 = 0) : Turned B w0 w g n c F i m (k + 1) G := by
  refine ⟨h.own, h.bel, h.len, h.byte, ?_⟩
  rw [h.num, M.mask_succ, hb]
  simp
theorem Turned.turn {B : Nat} {w0 w : World} {g n c : Nat} {F : List Int} {i m k : Nat} {G : List Int} (h : Turned B w0 w g n c F i m k G) (hb : m / 2 ^ k % 2 = 1) (hg : B ≤ g) (hk : i + k < 8 * n) :
    Turned B w0 (w.setCell ⟨g, (i + k) / 8, none⟩ (.int .u8 (((G.getD ((i + k) / 8) 0).toNat ^^^ 2 ^ ((i + k) % 8) : Nat) : Int))) g n c F i m (k + 1) (G.set ((i + k) / 8) (((G.getD ((i + k) / 8) 0).toNat ^^^ 2 ^ ((i + k) % 8) : Nat) : Int)) := by
  have hlt : (i + k) / 8 < G.length := by rw [h.len]; omega
  refine ⟨h.own.stored _ _, h.bel.setCell hg _, by rw [List.length_set]; exact h.len, M.set_byte G _ _ (by omega) h.byte, ?_⟩
  rw [M.rl_set G _ _ hlt (by omega) h.byte, h.num, M.mask_succ, hb, show 8 * ((i + k) / 8) + (i + k) % 8 = k + i from by omega, Nat.shiftLeft_xor_distrib, ← Nat.shiftLeft_add, Nat.xor_assoc]

set_option maxRecDepth 100000 in
set_option maxHeartbeats 1000000 in
theorem tells_walk (a0 : Option Addr) (len0 cap0 : Nat) (z0 : List Int) (a1 : Int) (a2 : Int) (w : World) (w0 : Came w a0 len0 cap0 z0) (w1 : (Lit.int .i64 a1).wf = true) (w2 : (Lit.int .u32 a2).wf = true) :
    Calls Try.prog 4 #[.slice a0 len0 cap0, .int .i64 a1, .int .u32 a2] w fun e w' => e = .returned (.bool true) ∧ Below w.heap.size w w' := by
  obtain ⟨h0, m0⟩ := Hs.of w0
  clear w0
  generalize z0.take len0 = l at *
  unfold maxLen at m0
  by_cases hlen : len0 ≤ 32756
  · have kb := h0.byte
    go_enter Try.func4, Try.ntmps4
    go_wp2_with fail
    refine (alive_any _).mono ?_
    rintro e wa ⟨rfl, ba⟩
    go_wp2_with fail
    refine (seal_ok a0 len0 cap0 l wa (h0.later ba) hlen).mono ?_
    rintro e wb ⟨v, rfl, ov, nv, bb⟩
    have bwb : Below w.heap.size w wb := ba.trans (bb.mono ba.size)
    obtain ⟨g, c, hv, hg1, hg2⟩ := ov.shape nv
    have hfl := M.frame_length l
    rw [h0.len] at hfl
    rw [hfl] at hv
    subst hv
    have hgw : w.heap.size ≤ g := Nat.le_trans ba.size hg1
    obtain ⟨q1, q2⟩ := u32_wf w2
    obtain ⟨m, rfl⟩ := Int.eq_ofNat_of_zero_le q1
    have hm : m < 4294967296 := by omega
    clear q1 q2 w2
    obtain ⟨q3, q4⟩ := i64_wf w1
    clear w1
    have ov' := ov.base ba.size
    clear ov nv bb ba hg1
    by_cases hneg : a1 < 0
    · go_wp2_with (go_at_call 10; go_in)
      go_ret
      exact ⟨rfl, bwb⟩
    · obtain ⟨i, rfl⟩ := Int.eq_ofNat_of_zero_le (show 0 ≤ a1 by omega)
      by_cases hbig : 8 * (len0 + 12) ≤ i
      · go_wp2_with (go_at_call 10; go_in)
        go_ret
        exact ⟨rfl, bwb⟩
      · have T0 : Turned w.heap.size w wb g (len0 + 12) c (M.frame l) i m 0 (M.frame l) := ⟨ov', bwb, hfl, M.frame_byte l kb, by simp [Nat.mod_one]⟩
        clear ov' bwb
        have HFL := hide hfl
        clear hfl
        go_wp2_with (go_at_call 10; go_in)
        go_loopw [9, 10, 11] (fun ch k _ wr => ∃ (kk : Nat) (G : List Int), k = .int .i64 kk ∧ kk ≤ 32 ∧ i + kk ≤ 8 * (len0 + 12) ∧ ch = .bool (chB m kk) ∧ Turned w.heap.size w wr g (len0 + 12) c (M.frame l) i m kk G) (fun _ k _ _ => 32 - (intOf k).toNat)
        case atStart => exact ⟨0, M.frame l, rfl, by omega, by omega, by simp [chB, Nat.mod_one], T0⟩
        case round =>
          obtain ⟨kk, G, rfl, hk1, hk2, rfl, T⟩ := hrel
          by_cases hgo : kk < 32 ∧ i + kk < 8 * (len0 + 12)
          · obtain ⟨hk3, hk4⟩ := hgo
            have hat : (i + kk) / 8 < len0 + 12 := by omega
            have hcell := T.own.row ((i + kk) / 8) (by rw [T.len]; exact hat)
            have hsoft := T.own.soft ((i + kk) / 8)
            rw [Addr.add_lit, Nat.zero_add] at hcell
            by_cases hb : m / 2 ^ kk % 2 = 1
            · have hbt := bit_test m kk hm
              rw [decide_eq_true hb] at hbt
              have HCH := hide (chB_turn m kk hb)
              have hz : 0 ≤ G.getD ((i + kk) / 8) 0 ∧ G.getD ((i + kk) / 8) 0 < 256 := T.byte _ (by simp [List.getD, show (i + kk) / 8 < G.length by rw [T.len]; exact hat])
              have HV := hide (store_val (G.getD ((i + kk) / 8) 0) ((i + kk) % 8) (by omega) hz.1 hz.2)
              have HT := hide (T.turn hb hgw hk4)
              clear hb T hz
              go_wp2
              rw [show G[(i + kk) / 8]?.getD 0 = G.getD ((i + kk) / 8) 0 from rfl, HV.out]
              exact ⟨⟨kk + 1, _, by go_num, by omega, by omega, by rw [HCH.out], HT.out⟩, by simp [intOf]; omega⟩
            · have hb0 : m / 2 ^ kk % 2 = 0 := by omega
              have hbt := bit_test m kk hm
              rw [decide_eq_false hb] at hbt
              have HCH := hide (chB_skip m kk hb0)
              have HT := hide (T.skip hb0)
              clear hb hb0 T hcell hsoft
              go_wp2
              exact ⟨⟨kk + 1, _, by go_num, by omega, by omega, by rw [HCH.out], HT.out⟩, by simp [intOf]; omega⟩
          · have hex : 32 ≤ kk ∨ (kk < 32 ∧ 8 * (len0 + 12) ≤ i + kk) := by omega
            obtain ⟨to, tb, tl, tby, tn⟩ := T
            have hT : Hs wr (some ⟨g, 0, none⟩) (len0 + 12) c G := ⟨tl, to.cap, fun x hx => by (cases hx; exact to.row), fun hx => by (cases hx), tby⟩
            have FB := M.frame_byte l kb
            have FE := frame_err l (by have := h0.len; omega) kb
            clear T0 hgo to
            cases hch : chB m kk
            · have h2 : m % 2 ^ kk = 0 := by
                unfold chB at hch
                simpa using hch
              rw [h2, Nat.zero_shiftLeft, Nat.xor_zero] at tn
              have hGF := rl_inj (M.frame l) G FB tby (by rw [tl, HFL.out]) tn
              subst hGF
              clear tn h2 hch
              rcases hex with hex | ⟨hex, hex2⟩
              all_goals
                go_wp2_with fail
                refine (open_any _ _ c (M.frame l) wr hT).mono ?_
                rintro e wd ⟨v3, rfl, ov3, bd⟩
                have bwd : Below w.heap.size w wd := tb.trans (bd.mono tb.size)
                rw [FE]
                rw [frame_body l (by have := h0.len; omega) kb] at ov3
                obtain ⟨g3, n3, c3, hv3, hg3, _⟩ := ov3.hs kb
                subst hv3
                clear ov3 bd hT FE FB tl tby
                go_wp2_with (go_at_call 10; go_in)
                refine (same_any g3 a0 n3 c3 len0 cap0 l l wd hg3 (h0.later bwd)).mono ?_
                rintro e we ⟨rfl, hx⟩
                rw [hx, decide_eq_true (rfl : l = l)]
                clear hx hg3 h0 HFL kb
                go_wp2
                go_ret
                exact ⟨rfl, bwd⟩
            · have h2 : m % 2 ^ kk ≠ 0 := by
                unfold chB at hch
                simpa using hch
              have hE := told_burst (M.frame l) G FB tby (by rw [tl, HFL.out]) FE (m % 2 ^ kk) i (Nat.lt_of_le_of_lt (Nat.mod_le _ _) hm) (by rw [HFL.out]; omega) tn h2
              have hne : (opErr G != 0) = true := by simp [hE]
              have hB := opBody_bad hE
              clear tn h2 hch hE FE FB
              rcases hex with hex | ⟨hex, hex2⟩
              all_goals
                go_wp2_with fail
                refine (open_any _ _ c G wr hT).mono ?_
                rintro e wd ⟨v3, rfl, ov3, bd⟩
                have bwd : Below w.heap.size w wd := tb.trans (bd.mono tb.size)
                rw [hB] at ov3
                obtain ⟨g3, n3, c3, hv3, hg3, _⟩ := ov3.hs (by simp)
                subst hv3
                have hl3 : n3 = 0 := hg3.len.symm
                subst hl3
                clear ov3 bd hT hg3
                generalize opErr G = E at *
                go_wp2_with (go_at_call 10; go_in)
                go_ret
                exact ⟨rfl, bwd⟩
  · go_enter Try.func4, Try.ntmps4
    go_wp2_with fail
    refine (alive_any _).mono ?_
    rintro e wc ⟨rfl, bwc⟩
    go_wp2_with fail
    refine (seal_long a0 len0 cap0 wc (by omega)).mono ?_
    rintro e wb ⟨rfl, hx⟩
    cases hx
    go_wp2_with (go_at_call 10; go_in)
    go_ret
    have hd : decide ((32756 : Int) < (len0 : Int)) = true := by simp; omega
    exact ⟨by rw [← hd]; rfl, bwc⟩
#print axioms tells_walk

end Go.Proofs.Ytnodhappbknclab
