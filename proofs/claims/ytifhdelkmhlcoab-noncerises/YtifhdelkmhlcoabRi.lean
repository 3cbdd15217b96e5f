import Derived.Test.YtifhdelkmhlcoabRm
import Derived.Deep.RegionHeld3
namespace Go.Proofs.Ytifhdelkmhlcoab
open Go.RowKit
set_option linter.unusedVariables false

/-- Beats that came in. -/
def Beats (w : World) (a : Option Addr) (len : Nat) : Prop := len * 16 ≤ 140737488351232 ∧ ∀ i, i < len → ∃ b o K N, a = some ⟨b, o, none⟩ ∧ w.cell? ⟨b, o + i * 2, none⟩ = some (.int .i64 K) ∧ w.cell? ⟨b, o + i * 2 + 1, none⟩ = some (.int .u64 N) ∧ 0 ≤ N

theorem wrap_nat (n : Nat) (h : (n : Int) ≤ 9223372036854775807) : IntKind.i64.wrap (n : Int) = n := by
  rw [IntKind.wrap_i64]
  omega
theorem Clk.bel' {B : Nat} {w w' : World} {c : Nat} {R : Int} (h : Clk w c R) (b : Below B w w') (hc : c < B) : Clk w' c R :=
  ⟨Nat.lt_of_lt_of_le h.lt b.size, (b.cell (p := ⟨c, 0, none⟩) hc).trans h.c0, (b.frozen (p := ⟨c, 0, none⟩) hc).trans h.f0, h.lo, h.hi⟩
theorem Prs.bel' {B : Nat} {w w' : World} {p c : Nat} {rd md : Int} (h : Prs w p c rd md) (b : Below B w w') (hc : p < B) : Prs w' p c rd md :=
  ⟨Nat.lt_of_lt_of_le h.lt b.size, (b.cell (p := ⟨p, 0, none⟩) hc).trans h.c0, (b.cell (p := ⟨p, 1, none⟩) hc).trans h.c1, (b.cell (p := ⟨p, 2, none⟩) hc).trans h.c2, (b.frozen (p := ⟨p, 1, none⟩) hc).trans h.f1, (b.frozen (p := ⟨p, 2, none⟩) hc).trans h.f2, h.ne, h.m0, h.m1⟩

set_option maxRecDepth 100000 in
set_option maxHeartbeats 1600000 in
theorem rises_walk (at_ : Int) (ad : Option Addr) (len cap : Nat) (w : World) (ha : 0 ≤ at_ ∧ at_ ≤ 18446744073709551615) (ht : Beats w ad len) :
    Calls Try.prog 4 #[.int .u64 at_, .slice ad len cap] w fun e w' => e = .returned (.bool true) ∧ Below w.heap.size w w' := by
  have r := Nat.le_refl w.heap.size
  have b0 := Below.refl w.heap.size w
  go_enter Try.func4, Try.ntmps4
  go_wp2_with fail
  refine (newclock_any _ _).mono ?_
  rintro e w1 ⟨rfl, h1⟩
  have c1 : Clk w1 w.heap.size at_ := h1 ▸ Clk.new at_ w ha.1 ha.2
  have b1 : Below w.heap.size w w1 := h1 ▸ b0.alloc r _
  clear h1
  go_wp2_with fail
  refine (newpairs_any _ _).mono ?_
  rintro e w2 ⟨rfl, h2⟩
  have u2 : Upd (fun _ => False) w1 w2 := h2 ▸ (Upd.refl _ _).alloc _
  have p2 : Prs w2 w1.heap.size w.heap.size 0 0 := h2 ▸ Prs.new _ _ c1.lt
  have c2 := c1.upd u2 id
  have b2 : Below w.heap.size w w2 := h2 ▸ b1.alloc b1.size _
  clear h2 u2
  go_wp2_with fail
  refine (works_any _).mono ?_
  rintro e w3 ⟨rfl, k3⟩
  have u3 : Upd (fun _ => False) w2 w3 := Upd.of_below k3
  have p3 := p2.upd u3 id
  have c3 := c2.upd u3 id
  have b3 := Below.on r b2 k3
  have o1 := c1.lt
  clear k3 u3 p2 c2 b2 b1 c1
  have HT := hide ht
  clear ht b0
  have l3 : w1.heap.size < w3.heap.size := p3.lt
  have rx := b3.size
  generalize hx : w.heap.size = c at *
  generalize w1.heap.size = p at *
  have hB := Nat.le_refl w3.heap.size
  generalize hB0 : w3.heap.size = B at *
  have rc : c ≤ w.heap.size := by omega
  go_wp2
  go_loopw [8, 9, 10, 11, 12] (fun vm vl vw vb i wl => ∃ (k : Nat) (L : List (Int × Int)) (R rd md lst : Int) (wp bk : Bool), i = .int .i64 k ∧ k ≤ len ∧ OwnD B wl vm L ∧ L.length ≤ k ∧ vl = .int .u64 lst ∧ vw = .bool wp ∧ vb = .bool bk ∧ Clk wl c R ∧ Prs wl p c rd md ∧ RInv L R rd md lst wp ∧ Below c w wl ∧ B ≤ wl.heap.size) (fun _ _ _ _ i _ => len - (intOf i).toNat)
  case atStart => exact ⟨0, [], at_, 0, 0, 0, false, false, rfl, Nat.zero_le _, OwnD.nil _ _, Nat.zero_le _, rfl, rfl, rfl, c3, p3, RInv.start _, b3, by omega⟩
  case round =>
    obtain ⟨k, L, R, rd, md, lst, wp, bk, rfl, hk, ho, hLk, rfl, rfl, rfl, C, P, I, bl, hBl⟩ := hrel
    clear c3 p3 b3 hB
    by_cases hlt : k < len
    · obtain ⟨hlen, HTT⟩ := HT.out
      obtain ⟨gb, go, K, N, rfl, e1, e2, hN⟩ := HTT k hlt
      have e1 := cell_later (hx ▸ bl) e1
      have e2 := cell_later (hx ▸ bl) e2
      clear HTT HT
      have II := hide I
      clear I
      by_cases hK0 : K = 0
      · subst hK0
        go_wp2_with fail
        refine (pass_any _ _ N _ C hN).mono ?_
        rintro e w4 ⟨rfl, C4, u4⟩
        have P4 := P.upd u4 (by show ¬ p = c; omega)
        have o4 := ho.upd u4 (by intro q hq; show ¬ q = c; omega)
        have b4 := upd_below rc bl (Nat.le_refl _) u4
        have s4 := u4.size
        have I4 := II.out.pass (pR_le R N hN)
        clear u4 II ho C P bl e1 e2
        go_wp2
        go_round
        case rel => exact ⟨k + 1, L, _, rd, md, lst, wp, bk, by go_num, by omega, o4, by omega, rfl, rfl, rfl, C4, P4, I4, b4, by omega⟩
        case measure => simp [intOf]; omega
      · by_cases hK1 : K = 1
        · subst hK1
          go_wp2_with fail
          refine (wipe_any _ _ _ _ _ P).mono ?_
          rintro e w4 ⟨rfl, P4, u4⟩
          have C4 := C.upd u4 (by show ¬ c = p; omega)
          have o4 := ho.upd u4 (by intro q hq; show ¬ q = p; omega)
          have b4 := upd_below rc bl (by omega) u4
          have s4 := u4.size
          have I4 := II.out.wipe
          clear u4 II ho C P bl e1 e2
          go_wp2
          go_round
          case rel => exact ⟨k + 1, L, R, 0, 0, lst, true, bk, by go_num, by omega, o4, by omega, rfl, rfl, rfl, C4, P4, I4, b4, by omega⟩
          case measure => simp [intOf]; omega
        · have q0 : (K == 0) = false := by simp [hK0]
          have q1 : (K == 1) = false := by simp [hK1]
          obtain ⟨va, vc, rfl, hvc, hvm, hvn, hvx⟩ := ho.form
          by_cases hm : made R rd md = 65535
          · obtain ⟨f1, rfl, rfl⟩ := II.out.full hm
            go_wp2_with fail
            refine (draw_end _ _ _ _ _ _ P C hm).mono ?_
            rintro e w4 ⟨rfl, k4⟩
            have u4 : Upd (fun _ => False) wr w4 := Upd.of_below k4
            have C4 := (C.upd u4 id).upd (S := fun _ => False) ((Upd.refl _ w4).alloc (.cells #[.int .u64 0, .int .u64 0] 47)) id
            have P4 := (P.upd u4 id).upd (S := fun _ => False) ((Upd.refl _ w4).alloc (.cells #[.int .u64 0, .int .u64 0] 47)) id
            have o4 := (ho.upd u4 (fun _ _ => id)).alloc (.cells #[.int .u64 0, .int .u64 0] 47)
            have b4 := bl.trans (u4.below (Nat.le_trans rc bl.size) (fun _ h => h.elim))
            have b5 := b4.alloc (Nat.le_trans rc b4.size) (.cells #[.int .u64 0, .int .u64 0] 47)
            have s4 := u4.size
            have f2 : decide ((L.length : Int) < 65535) = false := by simp; omega
            have I4 := II.out
            clear u4 ho C P bl e1 e2 k4 hvx hvn
            go_wp2_with fail
            refine (now_any _ _ _ C4).mono ?_
            rintro e w5 ⟨rfl, rfl⟩
            go_wp2
            go_round
            case rel => exact ⟨k + 1, L, _, rd, md, _, false, bk, by go_num, by omega, o4, by omega, rfl, rfl, rfl, C4, P4, I4, b5, by simp; omega⟩
            case measure => simp [intOf]; omega
          · go_wp2_with fail
            refine (draw_ok _ _ _ _ _ _ P C hm).mono ?_
            rintro e w4 ⟨rfl, P4, u4⟩
            have C4 := C.upd u4 (by show ¬ c = p; omega)
            have o4 := ho.upd u4 (by intro q hq; show ¬ q = p; omega)
            have b4 := upd_below rc bl (by omega) u4
            have s4 := u4.size
            have m0 : 0 ≤ made R rd md := by have := P.m0; unfold made; split <;> omega
            have I4 := hide (II.out.draw P.m0)
            have HA := hide (fun hl hn => II.out.above P.m0 hl hn)
            have D5 := Dr.new w4 R (made R rd md + 1) 47
            have C5 := C4.upd (S := fun _ => False) ((Upd.refl _ w4).alloc (.cells #[.int .u64 R, .int .u64 (made R rd md + 1)] 47)) id
            have P5 := P4.upd (S := fun _ => False) ((Upd.refl _ w4).alloc (.cells #[.int .u64 R, .int .u64 (made R rd md + 1)] 47)) id
            have o5 := o4.alloc (.cells #[.int .u64 R, .int .u64 (made R rd md + 1)] 47)
            have b5 := b4.alloc (Nat.le_trans rc b4.size) (.cells #[.int .u64 R, .int .u64 (made R rd md + 1)] 47)
            have hz : (w4.alloc (.cells #[.int .u64 R, .int .u64 (made R rd md + 1)] 47)).heap.size = w4.heap.size + 1 := by simp
            have f3 : decide (made R rd md + 1 < 1) = false := by simp; omega
            have HN := fun j => hide (now_any _ _ ((w4.alloc (.cells #[.int .u64 R, .int .u64 (made R rd md + 1)] 47)).drewN j) (C5.upd (S := fun _ => False) ((Upd.refl _ _).drewN j) id))
            have hM1 : 1 ≤ made R rd md + 1 := by omega
            clear u4 ho C P bl e1 e2 C4 P4 o4 b4 m0
            generalize hM : made R rd md + 1 = M at *
            -- LEAVES
            by_cases hL : L = []
            · subst hL
              cases bk with
              | true =>
                go_wp2
                go_quiet ((go_at_call 16; exact Calls.quiet_of_same (HN _).out))
                have U6 := (Upd.refl (fun _ => False) (w4.alloc (.cells #[.int .u64 R, .int .u64 M] 47))).drewN nq
                have C6 := C5.upd U6 id
                have P6 := P5.upd U6 id
                have o6 := o5.upd U6 (fun _ _ => id)
                have D6 := D5.upd U6 id
                have b6 := below_drewN b5 nq
                have z6 := hide <| show B ≤ ((w4.alloc (.cells #[.int .u64 R, .int .u64 M] 47)).drewN nq).heap.size from by simp; omega
                clear U6 C5 P5 o5 D5 b5 HN hz
                generalize (w4.alloc (.cells #[.int .u64 R, .int .u64 M] 47)).drewN nq = w6 at *
                go_wp2
                go_quiet (fail)
                have U8 := (Upd.refl (fun _ => False) w6).drewN nq
                have C8 := C6.upd U8 id
                have P8 := P6.upd U8 id
                have o8 := o6.upd U8 (fun _ _ => id)
                have D8 := D6.upd U8 id
                have b8 := below_drewN b6 nq
                have z8 := hide <| show B ≤ (w6.drewN nq).heap.size from z6.out
                clear U8 C6 P6 o6 D6 b6 z6
                generalize w6.drewN nq = w8 at *
                obtain ⟨lW, d0, d1⟩ := D8
                go_wp2_with (at_builtin; go_must (refine app_draw _ rfl (.tmp 115) (.tmp 117) rfl B [] _ rfl ⟨w8.heap.size, 0, none⟩ rfl R M ?z2c ?z2d ?z2o ?z2B ?z2b ?z2k))
                case z2c => exact (Dr.new w8 R M _).c0
                case z2d => exact (Dr.new w8 R M _).c1
                case z2o => exact o8.alloc _
                case z2B => have := z8.out; simp; omega
                case z2b => simp
                intro v9 w9 o9 n9 g9
                have B9 : Below B w8 w9 := OwnD.grown (o8.alloc _) ((Below.refl _ w8).alloc z8.out _) g9 (by have := z8.out; simp; omega)
                have C9 := C8.bel' B9 (by omega)
                have P9 := P8.bel' B9 l3
                have b9 := b8.trans (B9.mono rx)
                have s9 := B9.size
                have z9 := z8.out
                have I9 := I4.out
                clear C8 P8 o8 b8 g9 B9 d0 d1 I4 II HA
                go_wp2_with fail
                refine (now_any _ _ _ C9).mono ?_
                rintro e w10 ⟨rfl, rfl⟩
                go_wp2
                go_round
                case rel => exact ⟨k + 1, [] ++ [(R, M)], R, R, M, R, false, true, by go_num, by omega, o9, by simp, rfl, rfl, rfl, C9, P9, I9, b9, by omega⟩
                case measure => simp [intOf]; omega
              | false =>
                go_wp2
                go_quiet ((go_at_call 16; exact Calls.quiet_of_same (HN _).out))
                have U6 := (Upd.refl (fun _ => False) (w4.alloc (.cells #[.int .u64 R, .int .u64 M] 47))).drewN nq
                have C6 := C5.upd U6 id
                have P6 := P5.upd U6 id
                have o6 := o5.upd U6 (fun _ _ => id)
                have D6 := D5.upd U6 id
                have b6 := below_drewN b5 nq
                have z6 := hide <| show B ≤ ((w4.alloc (.cells #[.int .u64 R, .int .u64 M] 47)).drewN nq).heap.size from by simp; omega
                clear U6 C5 P5 o5 D5 b5 HN hz
                generalize (w4.alloc (.cells #[.int .u64 R, .int .u64 M] 47)).drewN nq = w6 at *
                go_wp2
                go_quiet (fail)
                have U8 := (Upd.refl (fun _ => False) w6).drewN nq
                have C8 := C6.upd U8 id
                have P8 := P6.upd U8 id
                have o8 := o6.upd U8 (fun _ _ => id)
                have D8 := D6.upd U8 id
                have b8 := below_drewN b6 nq
                have z8 := hide <| show B ≤ (w6.drewN nq).heap.size from z6.out
                clear U8 C6 P6 o6 D6 b6 z6
                generalize w6.drewN nq = w8 at *
                obtain ⟨lW, d0, d1⟩ := D8
                go_wp2_with (at_builtin; go_must (refine app_draw _ rfl (.tmp 115) (.tmp 117) rfl B [] _ rfl ⟨w8.heap.size, 0, none⟩ rfl R M ?z3c ?z3d ?z3o ?z3B ?z3b ?z3k))
                case z3c => exact (Dr.new w8 R M _).c0
                case z3d => exact (Dr.new w8 R M _).c1
                case z3o => exact o8.alloc _
                case z3B => have := z8.out; simp; omega
                case z3b => simp
                intro v9 w9 o9 n9 g9
                have B9 : Below B w8 w9 := OwnD.grown (o8.alloc _) ((Below.refl _ w8).alloc z8.out _) g9 (by have := z8.out; simp; omega)
                have C9 := C8.bel' B9 (by omega)
                have P9 := P8.bel' B9 l3
                have b9 := b8.trans (B9.mono rx)
                have s9 := B9.size
                have z9 := z8.out
                have I9 := I4.out
                clear C8 P8 o8 b8 g9 B9 d0 d1 I4 II HA
                go_wp2_with fail
                refine (now_any _ _ _ C9).mono ?_
                rintro e w10 ⟨rfl, rfl⟩
                go_wp2
                go_round
                case rel => exact ⟨k + 1, [] ++ [(R, M)], R, R, M, R, false, false, by go_num, by omega, o9, by simp, rfl, rfl, rfl, C9, P9, I9, b9, by omega⟩
                case measure => simp [intOf]; omega
            · have hLp : 0 < L.length := by cases L with | nil => exact absurd rfl hL | cons => simp
              generalize hn : L.length = n' at *
              obtain ⟨n, rfl⟩ : ∃ n, n' = n + 1 := ⟨n' - 1, by omega⟩
              have HL := hide hn
              clear hn
              have hLq : (0 : Int) < ((n + 1 : Nat) : Int) := by omega
              have hn0 : (0 : Int) ≤ (n : Int) := by omega
              have hn1 : (n : Int) < ((n + 1 : Nat) : Int) := by omega
              have hn2 : (n : Int) ≤ 9223372036854775807 := by omega
              have hw0 : IntKind.i64.wrap (n : Int) = n := wrap_nat n (by omega)
              have hw1 : IntKind.i64.wrap ((n : Int) + 1 - 1) = n := by rw [show (n : Int) + 1 - 1 = n from by omega]; exact wrap_nat n (by omega)
              have hw2 : IntKind.i64.wrap (((n + 1 : Nat) : Int) - 1) = n := by rw [show ((n + 1 : Nat) : Int) - 1 = n from by omega]; exact wrap_nat n (by omega)
              have hn3 : (n : Int) < (n : Int) + 1 := by omega
              have hn4 : n < n + 1 := by omega
              obtain ⟨g, rfl, hgB⟩ : ∃ g, va = some ⟨g, 0, none⟩ ∧ B ≤ g := by
                cases va with
                | none => exact absurd (hvn rfl).1 hL
                | some x => obtain ⟨g, rfl, h1, _⟩ := hvx x rfl; exact ⟨g, rfl, h1⟩
              clear hvn hvx
              cases wp with
              | false =>
                have HNA : ¬ (false = true ∧ R = lst) := by simp
                cases bk with
                | true =>
                  go_wp2
                  go_quiet ((go_at_call 16; exact Calls.quiet_of_same (HN _).out))
                  have U6 := (Upd.refl (fun _ => False) (w4.alloc (.cells #[.int .u64 R, .int .u64 M] 47))).drewN nq
                  have C6 := C5.upd U6 id
                  have P6 := P5.upd U6 id
                  have o6 := o5.upd U6 (fun _ _ => id)
                  have D6 := D5.upd U6 id
                  have b6 := below_drewN b5 nq
                  have z6 := hide <| show B ≤ ((w4.alloc (.cells #[.int .u64 R, .int .u64 M] 47)).drewN nq).heap.size from by simp; omega
                  clear U6 C5 P5 o5 D5 b5 HN hz
                  generalize (w4.alloc (.cells #[.int .u64 R, .int .u64 M] 47)).drewN nq = w6 at *
                  go_wp2
                  go_quiet (fail)
                  have U8 := (Upd.refl (fun _ => False) w6).drewN nq
                  have C8 := C6.upd U8 id
                  have P8 := P6.upd U8 id
                  have o8 := o6.upd U8 (fun _ _ => id)
                  have D8 := D6.upd U8 id
                  have b8 := below_drewN b6 nq
                  have z8 := hide <| show B ≤ (w6.drewN nq).heap.size from z6.out
                  clear U8 C6 P6 o6 D6 b6 z6
                  generalize w6.drewN nq = w8 at *
                  obtain ⟨lW, d0, d1⟩ := D8
                  go_wp2_with (at_builtin; go_must (refine app_draw _ rfl (.tmp 115) (.tmp 117) rfl B L _ rfl ⟨w8.heap.size, 0, none⟩ rfl R M ?z4c ?z4d ?z4o ?z4B ?z4b ?z4k))
                  case z4c => exact (Dr.new w8 R M _).c0
                  case z4d => exact (Dr.new w8 R M _).c1
                  case z4o => exact o8.alloc _
                  case z4B => have := z8.out; simp; omega
                  case z4b => have := HL.out; omega
                  intro v9 w9 o9 n9 g9
                  have B9 : Below B w8 w9 := OwnD.grown (o8.alloc _) ((Below.refl _ w8).alloc z8.out _) g9 (by have := z8.out; simp; omega)
                  have C9 := C8.bel' B9 (by omega)
                  have P9 := P8.bel' B9 l3
                  have b9 := b8.trans (B9.mono rx)
                  have s9 := B9.size
                  have z9 := z8.out
                  have I9 := I4.out
                  clear C8 P8 o8 b8 g9 B9 d0 d1 I4 II HA
                  go_wp2_with fail
                  refine (now_any _ _ _ C9).mono ?_
                  rintro e w10 ⟨rfl, rfl⟩
                  go_wp2
                  go_round
                  case rel => exact ⟨k + 1, L ++ [(R, M)], R, R, M, R, false, true, by go_num, by omega, o9, by have := HL.out; rw [List.length_append, this]; simp; omega, rfl, rfl, rfl, C9, P9, I9, b9, by omega⟩
                  case measure => simp [intOf]; omega
                | false =>
                  go_wp2
                  go_quiet ((go_at_call 16; exact Calls.quiet_of_same (HN _).out))
                  have U6 := (Upd.refl (fun _ => False) (w4.alloc (.cells #[.int .u64 R, .int .u64 M] 47))).drewN nq
                  have C6 := C5.upd U6 id
                  have P6 := P5.upd U6 id
                  have o6 := o5.upd U6 (fun _ _ => id)
                  have D6 := D5.upd U6 id
                  have b6 := below_drewN b5 nq
                  have z6 := hide <| show B ≤ ((w4.alloc (.cells #[.int .u64 R, .int .u64 M] 47)).drewN nq).heap.size from by simp; omega
                  clear U6 C5 P5 o5 D5 b5 HN hz
                  generalize (w4.alloc (.cells #[.int .u64 R, .int .u64 M] 47)).drewN nq = w6 at *
                  go_wp2
                  obtain ⟨x, y, hxy, hcmp⟩ := HA.out hL HNA
                  rw [Nat.add_sub_cancel] at hxy
                  obtain ⟨e3, e4⟩ := o6.cell _ _ hxy
                  simp only at e3 e4
                  have d0 := D6.c0
                  have d1 := D6.c1
                  have ld := D6.lt
                  have KS := hide <| show ∀ v, Below w6.heap.size w6 v → (Below w6.heap.size w6 v ∧ v.cell? ⟨g, n * 2, none⟩ = some (.int .u64 x) ∧ v.cell? ⟨g, n * 2 + 1, none⟩ = some (.int .u64 y) ∧ v.cell? ⟨w4.heap.size, 0, none⟩ = some (.int .u64 R) ∧ v.cell? ⟨w4.heap.size, 1, none⟩ = some (.int .u64 M)) from
                    fun v b => ⟨b, cell_later b e3, cell_later b e4, cell_later b d0, cell_later b d1⟩
                  clear e3 e4 d0 d1
                  go_region_held3 (fun v => Below w6.heap.size w6 v ∧ v.cell? ⟨g, n * 2, none⟩ = some (.int .u64 x) ∧ v.cell? ⟨g, n * 2 + 1, none⟩ = some (.int .u64 y) ∧ v.cell? ⟨w4.heap.size, 0, none⟩ = some (.int .u64 R) ∧ v.cell? ⟨w4.heap.size, 1, none⟩ = some (.int .u64 M))
                    (first | exact KS.out _ (Below.refl _ _).drew | exact KS.out _ (by assumption))
                    (first | (go_at_call 18; refine (compare_any _ _ _ _ _).mono ?_; rintro e w8 ⟨rfl, bv⟩; rw [hcmp]; have k8 : Below w6.heap.size w6 w8 := (Below.refl _ _).drew.trans bv))
                  have U8 : Upd (fun _ => False) w6 w8 := Upd.of_below k8
                  have C8 := C6.upd U8 id
                  have P8 := P6.upd U8 id
                  have o8 := o6.upd U8 (fun _ _ => id)
                  have D8 := D6.upd U8 id
                  have b8 := b6.trans (k8.mono (Nat.le_trans rx z6.out))
                  have z8 := hide <| show B ≤ w8.heap.size from Nat.le_trans z6.out k8.size
                  clear U8 C6 P6 o6 D6 b6 z6
                  obtain ⟨lW, d0, d1⟩ := D8
                  go_wp2_with (at_builtin; go_must (refine app_draw _ rfl (.tmp 115) (.tmp 117) rfl B L _ rfl ⟨w8.heap.size, 0, none⟩ rfl R M ?z5c ?z5d ?z5o ?z5B ?z5b ?z5k))
                  case z5c => exact (Dr.new w8 R M _).c0
                  case z5d => exact (Dr.new w8 R M _).c1
                  case z5o => exact o8.alloc _
                  case z5B => have := z8.out; simp; omega
                  case z5b => have := HL.out; omega
                  intro v9 w9 o9 n9 g9
                  have B9 : Below B w8 w9 := OwnD.grown (o8.alloc _) ((Below.refl _ w8).alloc z8.out _) g9 (by have := z8.out; simp; omega)
                  have C9 := C8.bel' B9 (by omega)
                  have P9 := P8.bel' B9 l3
                  have b9 := b8.trans (B9.mono rx)
                  have s9 := B9.size
                  have z9 := z8.out
                  have I9 := I4.out
                  clear C8 P8 o8 b8 g9 B9 d0 d1 I4 II HA
                  go_wp2_with fail
                  refine (now_any _ _ _ C9).mono ?_
                  rintro e w10 ⟨rfl, rfl⟩
                  go_wp2
                  go_round
                  case rel => exact ⟨k + 1, L ++ [(R, M)], R, R, M, R, false, false, by go_num, by omega, o9, by have := HL.out; rw [List.length_append, this]; simp; omega, rfl, rfl, rfl, C9, P9, I9, b9, by omega⟩
                  case measure => simp [intOf]; omega
              | true =>
                by_cases hr : R = lst
                · subst hr
                  obtain ⟨hm0, hmem⟩ := RInv.again (II.out) hL
                  obtain rfl : M = 1 := by omega
                  go_wp2
                  go_quiet ((go_at_call 16; exact Calls.quiet_of_same (HN _).out))
                  have U6 := (Upd.refl (fun _ => False) (w4.alloc (.cells #[.int .u64 R, .int .u64 1] 47))).drewN nq
                  have C6 := C5.upd U6 id
                  have P6 := P5.upd U6 id
                  have o6 := o5.upd U6 (fun _ _ => id)
                  have D6 := D5.upd U6 id
                  have b6 := below_drewN b5 nq
                  have z6 := hide <| show B ≤ ((w4.alloc (.cells #[.int .u64 R, .int .u64 1] 47)).drewN nq).heap.size from by simp; omega
                  clear U6 C5 P5 o5 D5 b5 HN hz
                  generalize (w4.alloc (.cells #[.int .u64 R, .int .u64 1] 47)).drewN nq = w6 at *
                  have d0 := D6.c0
                  have d1 := D6.c1
                  go_wp2_with fail
                  refine (now_any _ _ _ C6).mono ?_
                  rintro e w7 ⟨rfl, hw7⟩
                  have hw7 := hw7.symm
                  subst hw7
                  go_wp2_with fail
                  refine (among_in B _ L R 1 _ o6 hmem).mono ?_
                  rintro e w8 ⟨rfl, k8⟩
                  clear d0 d1
                  have U8 : Upd (fun _ => False) w6 w8 := Upd.of_below k8
                  have C8 := C6.upd U8 id
                  have P8 := P6.upd U8 id
                  have o8 := o6.upd U8 (fun _ _ => id)
                  have D8 := D6.upd U8 id
                  have b8 := b6.trans (k8.mono (Nat.le_trans rx z6.out))
                  have z8 := hide <| show B ≤ w8.heap.size from Nat.le_trans z6.out k8.size
                  clear U8 C6 P6 o6 D6 b6 z6
                  obtain ⟨lW, d0, d1⟩ := D8
                  go_wp2_with (at_builtin; go_must (refine app_draw _ rfl (.tmp 115) (.tmp 117) rfl B L _ rfl ⟨w8.heap.size, 0, none⟩ rfl R 1 ?z1c ?z1d ?z1o ?z1B ?z1b ?z1k))
                  case z1c => exact (Dr.new w8 R 1 _).c0
                  case z1d => exact (Dr.new w8 R 1 _).c1
                  case z1o => exact o8.alloc _
                  case z1B => have := z8.out; simp; omega
                  case z1b => have := HL.out; omega
                  intro v9 w9 o9 n9 g9
                  have B9 : Below B w8 w9 := OwnD.grown (o8.alloc _) ((Below.refl _ w8).alloc z8.out _) g9 (by have := z8.out; simp; omega)
                  have C9 := C8.bel' B9 (by omega)
                  have P9 := P8.bel' B9 l3
                  have b9 := b8.trans (B9.mono rx)
                  have s9 := B9.size
                  have z9 := z8.out
                  have I9 := I4.out
                  clear C8 P8 o8 b8 g9 B9 d0 d1 I4 II HA
                  go_wp2_with fail
                  refine (now_any _ _ _ C9).mono ?_
                  rintro e w10 ⟨rfl, rfl⟩
                  go_wp2
                  go_round
                  case rel => exact ⟨k + 1, L ++ [(R, 1)], R, R, 1, R, false, true, by go_num, by omega, o9, by have := HL.out; rw [List.length_append, this]; simp; omega, rfl, rfl, rfl, C9, P9, I9, b9, by omega⟩
                  case measure => simp [intOf]; omega
                · have HNA : ¬ (true = true ∧ R = lst) := by simp [hr]
                  have hrb : (R == lst) = false := by simp [hr]
                  cases bk with
                  | true =>
                    go_wp2
                    go_quiet ((go_at_call 16; exact Calls.quiet_of_same (HN _).out))
                    have U6 := (Upd.refl (fun _ => False) (w4.alloc (.cells #[.int .u64 R, .int .u64 M] 47))).drewN nq
                    have C6 := C5.upd U6 id
                    have P6 := P5.upd U6 id
                    have o6 := o5.upd U6 (fun _ _ => id)
                    have D6 := D5.upd U6 id
                    have b6 := below_drewN b5 nq
                    have z6 := hide <| show B ≤ ((w4.alloc (.cells #[.int .u64 R, .int .u64 M] 47)).drewN nq).heap.size from by simp; omega
                    clear U6 C5 P5 o5 D5 b5 HN hz
                    generalize (w4.alloc (.cells #[.int .u64 R, .int .u64 M] 47)).drewN nq = w6 at *
                    go_wp2_with fail
                    refine (now_any _ _ _ C6).mono ?_
                    rintro e w7 ⟨rfl, hw7⟩
                    have hw7 := hw7.symm
                    subst hw7
                    go_wp2
                    go_quiet (fail)
                    have U8 := (Upd.refl (fun _ => False) w6).drewN nq
                    have C8 := C6.upd U8 id
                    have P8 := P6.upd U8 id
                    have o8 := o6.upd U8 (fun _ _ => id)
                    have D8 := D6.upd U8 id
                    have b8 := below_drewN b6 nq
                    have z8 := hide <| show B ≤ (w6.drewN nq).heap.size from z6.out
                    clear U8 C6 P6 o6 D6 b6 z6
                    generalize w6.drewN nq = w8 at *
                    obtain ⟨lW, d0, d1⟩ := D8
                    go_wp2_with (at_builtin; go_must (refine app_draw _ rfl (.tmp 115) (.tmp 117) rfl B L _ rfl ⟨w8.heap.size, 0, none⟩ rfl R M ?z6c ?z6d ?z6o ?z6B ?z6b ?z6k))
                    case z6c => exact (Dr.new w8 R M _).c0
                    case z6d => exact (Dr.new w8 R M _).c1
                    case z6o => exact o8.alloc _
                    case z6B => have := z8.out; simp; omega
                    case z6b => have := HL.out; omega
                    intro v9 w9 o9 n9 g9
                    have B9 : Below B w8 w9 := OwnD.grown (o8.alloc _) ((Below.refl _ w8).alloc z8.out _) g9 (by have := z8.out; simp; omega)
                    have C9 := C8.bel' B9 (by omega)
                    have P9 := P8.bel' B9 l3
                    have b9 := b8.trans (B9.mono rx)
                    have s9 := B9.size
                    have z9 := z8.out
                    have I9 := I4.out
                    clear C8 P8 o8 b8 g9 B9 d0 d1 I4 II HA
                    go_wp2_with fail
                    refine (now_any _ _ _ C9).mono ?_
                    rintro e w10 ⟨rfl, rfl⟩
                    go_wp2
                    go_round
                    case rel => exact ⟨k + 1, L ++ [(R, M)], R, R, M, R, false, true, by go_num, by omega, o9, by have := HL.out; rw [List.length_append, this]; simp; omega, rfl, rfl, rfl, C9, P9, I9, b9, by omega⟩
                    case measure => simp [intOf]; omega
                  | false =>
                    go_wp2
                    go_quiet ((go_at_call 16; exact Calls.quiet_of_same (HN _).out))
                    have U6 := (Upd.refl (fun _ => False) (w4.alloc (.cells #[.int .u64 R, .int .u64 M] 47))).drewN nq
                    have C6 := C5.upd U6 id
                    have P6 := P5.upd U6 id
                    have o6 := o5.upd U6 (fun _ _ => id)
                    have D6 := D5.upd U6 id
                    have b6 := below_drewN b5 nq
                    have z6 := hide <| show B ≤ ((w4.alloc (.cells #[.int .u64 R, .int .u64 M] 47)).drewN nq).heap.size from by simp; omega
                    clear U6 C5 P5 o5 D5 b5 HN hz
                    generalize (w4.alloc (.cells #[.int .u64 R, .int .u64 M] 47)).drewN nq = w6 at *
                    go_wp2_with fail
                    refine (now_any _ _ _ C6).mono ?_
                    rintro e w7 ⟨rfl, hw7⟩
                    have hw7 := hw7.symm
                    subst hw7
                    go_wp2
                    obtain ⟨x, y, hxy, hcmp⟩ := HA.out hL HNA
                    rw [Nat.add_sub_cancel] at hxy
                    obtain ⟨e3, e4⟩ := o6.cell _ _ hxy
                    simp only at e3 e4
                    have d0 := D6.c0
                    have d1 := D6.c1
                    have ld := D6.lt
                    have KS := hide <| show ∀ v, Below w6.heap.size w6 v → (Below w6.heap.size w6 v ∧ v.cell? ⟨g, n * 2, none⟩ = some (.int .u64 x) ∧ v.cell? ⟨g, n * 2 + 1, none⟩ = some (.int .u64 y) ∧ v.cell? ⟨w4.heap.size, 0, none⟩ = some (.int .u64 R) ∧ v.cell? ⟨w4.heap.size, 1, none⟩ = some (.int .u64 M)) from
                      fun v b => ⟨b, cell_later b e3, cell_later b e4, cell_later b d0, cell_later b d1⟩
                    clear e3 e4 d0 d1
                    go_region_held3 (fun v => Below w6.heap.size w6 v ∧ v.cell? ⟨g, n * 2, none⟩ = some (.int .u64 x) ∧ v.cell? ⟨g, n * 2 + 1, none⟩ = some (.int .u64 y) ∧ v.cell? ⟨w4.heap.size, 0, none⟩ = some (.int .u64 R) ∧ v.cell? ⟨w4.heap.size, 1, none⟩ = some (.int .u64 M))
                      (first | exact KS.out _ (Below.refl _ _).drew | exact KS.out _ (by assumption))
                      (first | (go_at_call 18; refine (compare_any _ _ _ _ _).mono ?_; rintro e w8 ⟨rfl, bv⟩; rw [hcmp]; have k8 : Below w6.heap.size w6 w8 := (Below.refl _ _).drew.trans bv))
                    have U8 : Upd (fun _ => False) w6 w8 := Upd.of_below k8
                    have C8 := C6.upd U8 id
                    have P8 := P6.upd U8 id
                    have o8 := o6.upd U8 (fun _ _ => id)
                    have D8 := D6.upd U8 id
                    have b8 := b6.trans (k8.mono (Nat.le_trans rx z6.out))
                    have z8 := hide <| show B ≤ w8.heap.size from Nat.le_trans z6.out k8.size
                    clear U8 C6 P6 o6 D6 b6 z6
                    obtain ⟨lW, d0, d1⟩ := D8
                    go_wp2_with (at_builtin; go_must (refine app_draw _ rfl (.tmp 115) (.tmp 117) rfl B L _ rfl ⟨w8.heap.size, 0, none⟩ rfl R M ?z7c ?z7d ?z7o ?z7B ?z7b ?z7k))
                    case z7c => exact (Dr.new w8 R M _).c0
                    case z7d => exact (Dr.new w8 R M _).c1
                    case z7o => exact o8.alloc _
                    case z7B => have := z8.out; simp; omega
                    case z7b => have := HL.out; omega
                    intro v9 w9 o9 n9 g9
                    have B9 : Below B w8 w9 := OwnD.grown (o8.alloc _) ((Below.refl _ w8).alloc z8.out _) g9 (by have := z8.out; simp; omega)
                    have C9 := C8.bel' B9 (by omega)
                    have P9 := P8.bel' B9 l3
                    have b9 := b8.trans (B9.mono rx)
                    have s9 := B9.size
                    have z9 := z8.out
                    have I9 := I4.out
                    clear C8 P8 o8 b8 g9 B9 d0 d1 I4 II HA
                    go_wp2_with fail
                    refine (now_any _ _ _ C9).mono ?_
                    rintro e w10 ⟨rfl, rfl⟩
                    go_wp2
                    go_round
                    case rel => exact ⟨k + 1, L ++ [(R, M)], R, R, M, R, false, false, by go_num, by omega, o9, by have := HL.out; rw [List.length_append, this]; simp; omega, rfl, rfl, rfl, C9, P9, I9, b9, by omega⟩
                    case measure => simp [intOf]; omega
    · obtain rfl : k = len := by omega
      go_wp2
      go_ret
      exact ⟨rfl, by rw [hx]; exact bl⟩

end Go.Proofs.Ytifhdelkmhlcoab
