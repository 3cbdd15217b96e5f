import Derived.Test.YtdddbfincmodjaaDl
namespace Go.Proofs.Ytdddbfincmodjaa
open Go.RowKit Go.Maps
open Classical
set_option linter.unusedVariables false
set_option linter.unusedSimpArgs false

set_option maxRecDepth 100000 in
set_option maxHeartbeats 8000000 in
theorem stays_good (L : List En) (a : Option Addr) (c : Nat) (k1 k2 k0 : Nat) (w : World) (h : SlY yE w a L.length c L) (hf : ∀ e ∈ L, e.fits)
    (hgd : lg L 256 = 0) (h1 : k0 ≤ L.length) (h2 : k1 ≤ k0) (h3 : k1 ≤ k2) (h4 : k2 ≤ L.length) :
    Calls Try.prog 7 #[.slice a L.length c, .int .i64 (k1 : Int), .int .i64 (k2 : Int), .int .i64 (k0 : Int)] w fun e w' => e = .returned (.bool true) ∧ Below w.heap.size w w' := by
  have hmx := h.max
  have hcp := h.cap
  unfold maxLen at hmx
  obtain ⟨hl0, hok⟩ := lg_zero hgd
  have hl : L.length ≤ 256 := by omega
  have CL := hide (fun W hW => reflog_any L a c 256 W hW hf)
  have CA := hide (fun W (hW : SlY yE W a L.length c L) (s n : Int) => ask_any L a c (k2 : Int) s n W hW hf)
  have CE : Hid (∀ W, SlY yE W a L.length c L → ∀ s n : Int, Calls Try.prog 16 #[.slice a k0 c, .int .i64 (k1 : Int), .int .i64 s, .int .i64 n] W fun e w' => e = .returned (.tuple #[.int .i64 (akV (L.take k0) (k1 : Int) s n).1, rV (akV (L.take k0) (k1 : Int) s n).2, .int .i64 (akE (L.take k0) (k1 : Int) s n)]) ∧ Below W.heap.size W w') := fun W hW s n => by
    have := ask_any (L.take k0) a c (k1 : Int) s n W (by have := hW.take k0 h1; rw [List.length_take, Nat.min_eq_left h1]; exact this) (fun e he => hf e (List.mem_of_mem_take he))
    rw [List.length_take, Nat.min_eq_left h1] at this
    exact this
  have hgt : lg (L.take k0) 256 = 0 := lg_ok (okL_take hok k0) (by simp; omega)
  have H := hide h
  have HF := hide hf
  have HOK := hide hok
  have HGD := hide hgd
  have HGT := hide hgt
  have CL2 : Hid (∀ W, SlY yE W a L.length c L → Calls Try.prog 20 #[.slice a L.length c, .int .i64 256] W fun e w' => e = .returned (.int .i64 0) ∧ Below W.heap.size W w') := fun W hW => by
    have := CL.out W hW
    rw [hgd] at this
    exact this
  clear h hf hl0 hok hgd hgt CL
  have i1 : (k0 : Int) ≤ (L.length : Int) := by omega
  have i2 : (k1 : Int) ≤ (k0 : Int) := by omega
  have i3 : (k1 : Int) ≤ (k2 : Int) := by omega
  have i4 : (k2 : Int) ≤ (L.length : Int) := by omega
  have n1 : decide (L.length < k0) = false := by simp; omega
  have n2 : decide (k0 < k1) = false := by simp; omega
  have n3 : decide (k2 < k1) = false := by simp; omega
  have n4 : decide (L.length < k2) = false := by simp; omega
  have n5 : decide ((k0 : Int) < 0) = false := by simp
  have n6 : decide ((k1 : Int) < 0) = false := by simp
  go_enter Try.func7, Try.ntmps7
  go_wp2_with fail
  refine (alive_any w).mono ?_
  rintro e w1 ⟨rfl, b1⟩
  have z1 := b1.size
  have cl := CL2.out w1 (H.out.later b1)
  go_wp2_with fail
  refine cl.mono ?_
  rintro e w2 ⟨rfl, b2⟩
  have z2 := b2.size
  have bb2 := hide (b1.trans (b2.mono z1))
  clear cl b1 b2
  go_wp2_with fail
  go_loopw [13] (fun i wr => ∃ i0 : Nat, i = .int .i64 (i0 : Int) ∧ i0 ≤ k0 ∧ Below w.heap.size w wr) (fun i _ => k0 - (intOf i).toNat)
  case atStart => exact ⟨0, rfl, Nat.zero_le _, bb2.out⟩
  case round =>
    obtain ⟨i, rfl, hi, hb⟩ := hrel
    by_cases hlt : i < k0
    · have hx : L[i]? = some L[i] := List.getElem?_eq_getElem (by omega)
      have hfi := HF.out L[i] (List.getElem_mem (by omega))
      obtain ⟨hs0, hs1, hs2⟩ := okL_entry HOK.out hx
      obtain ⟨q, o, ea, hq, c0, c1, c2, c3, c4⟩ := (H.out.later hb).en hx
      have hst := lt2_start hx
      have hNw := i64_wf hfi.nw
      have HX : Hid (L[i]? = some L[i]) := hx
      have HAP : Hid (∀ (i2 : Nat) (p : En), i < i2 → L[i2]? = some p → L[i].c = p.c → L[i].n < p.n) := fun i2 p h1 h2 h3 => okL_apart HOK.out h1 hx h2 h3
      subst ea
      generalize L[i] = x at *
      obtain ⟨s, N, ⟨ok, os, ov⟩⟩ := x
      dsimp only at hs0 hs1 hs2 c0 c1 c2 c3 c4 hst hNw HAP
      have hsz := hb.size
      have bA := (Below.refl _ wr).alloc (Nat.le_refl _) (.cells #[.int .i64 s, .int .i64 N, .int .i64 ok, .int .i64 os, .string ov] 61)
      have BA := hide (hb.trans (bA.mono hsz))
      have XB : Hid (∀ W, Below (wr.heap.size + 1) (wr.alloc (.cells #[.int .i64 s, .int .i64 N, .int .i64 ok, .int .i64 os, .string ov] 61)) W → W.cell? ⟨wr.heap.size, 0, none⟩ = some (.int .i64 s) ∧ W.cell? ⟨wr.heap.size, 1, none⟩ = some (.int .i64 N)) := fun W hW => by
        obtain ⟨x0, x1, _⟩ := box5 hW (by omega)
        exact ⟨x0, x1⟩
      have HST := hide hst
      have hi0 : (0 : Int) ≤ (i : Int) := by omega
      have hi1 : (i : Int) < (k0 : Int) := by omega
      have hwi : IntKind.i64.wrap ((i : Int) + 1) = (i : Int) + 1 := by rw [IntKind.wrap_i64]; omega
      clear hx hfi bA hst
      go_wp2_with fail
      obtain ⟨gb, hgb⟩ : ∃ gb, gb = wr.heap.size := ⟨_, rfl⟩
      obtain ⟨W1, hW1⟩ : ∃ W1, W1 = wr.alloc (.cells #[.int .i64 s, .int .i64 N, .int .i64 ok, .int .i64 os, .string ov] 61) := ⟨_, rfl⟩
      rw [← hW1] at XB BA ⊢
      rw [← hgb] at XB ⊢
      have hz1 : gb + 1 = W1.heap.size := by rw [hW1, hgb]; simp
      have HZ := hide hz1
      have HGB := hide hgb
      have HW1 := hide hW1
      obtain ⟨x0, x1⟩ := XB.out W1 (Below.refl _ _)
      have ENT : Hid (∀ (m : Nat) (p : En), L[m]? = some p → W1.cell? ⟨q, o + m * 5, none⟩ = some (.int .i64 p.c)) := fun m p hp => by
        obtain ⟨q', o', ea', _, h5, _⟩ := (H.out.later BA.out).en hp
        cases ea'
        exact h5
      have hqg : ¬ q = gb := by omega
      clear hz1 hgb hW1 c0 c1 c2 c3 c4
      go_loopw [16, 15] (fun kk l2 ws => ∃ m qn : Nat, kk = .int .i64 (m : Int) ∧ i < m ∧ m ≤ L.length ∧ l2 = .bool (lt2 L i m s) ∧ ws = W1.drewN qn) (fun kk _ _ => L.length - (intOf kk).toNat)
      case atStart => exact ⟨i + 1, 0, by go_num, by omega, by omega, by rw [HST.out], rfl⟩
      case round =>
        obtain ⟨m, qn, rfl, him, hm, rfl, rfl⟩ := hrel
        have hm0 : (0 : Int) ≤ (m : Int) := by omega
        by_cases hlm : m < L.length
        · have hp : L[m]? = some L[m] := List.getElem?_eq_getElem hlm
          have hls := lt2_step (s := s) hp him
          have f0 := ENT.out m _ hp
          generalize L[m] = p at *
          have hm1 : (m : Int) < (L.length : Int) := by omega
          cases hlb : lt2 L i m s with
          | true =>
            have HT : Hid (lt2 L i (m + 1) s = true) := by show _ = _; rw [hls, hlb]; rfl
            clear hls hp hlb
            go_wp2
            go_quiet (fail)
            go_wp2
            go_round
            case rel => exact ⟨m + 1, qn + nq, by go_num, by omega, by omega, by rw [HT.out], by simp⟩
            case measure => simp [intOf]; omega
          | false =>
            by_cases hc : p.c = s
            · have HT : Hid (lt2 L i (m + 1) s = true) := by show _ = _; rw [hls, hlb]; simp [hc]
              rw [hc] at f0
              clear hls hp hlb hc
              go_wp2
              go_quiet (fail)
              go_wp2
              go_round
              case rel => exact ⟨m + 1, qn + nq, by go_num, by omega, by omega, by rw [HT.out], by simp⟩
              case measure => simp [intOf]; omega
            · have HT : Hid (lt2 L i (m + 1) s = false) := by show _ = _; rw [hls, hlb]; simp [hc]
              have hd1 : (p.c == s) = false := by simpa using hc
              have hd2 : decide (p.c = s) = false := by simpa using hc
              clear hls hp hlb
              go_wp2
              go_quiet (fail)
              go_wp2
              go_round
              case rel => exact ⟨m + 1, qn + nq, by go_num, by omega, by omega, by rw [HT.out], by simp⟩
              case measure => simp [intOf]; omega
        · obtain rfl : m = L.length := by omega
          have BW := hide (belN BA.out qn)
          have hzW : Hid ((W1.drewN qn).heap.size = gb + 1) := HZ.out.symm
          have XW : Hid (∀ W, Below (W1.drewN qn).heap.size (W1.drewN qn) W → W.cell? ⟨gb, 0, none⟩ = some (.int .i64 s) ∧ W.cell? ⟨gb, 1, none⟩ = some (.int .i64 N)) := fun W hW => XB.out W ((belN (Below.refl _ W1) qn).trans (hW.mono (by rw [hzW.out]; exact Nat.le_refl _)))
          cases hlb : lt2 L i L.length s with
          | true =>
            have hlp : lp L s ≠ i + 1 := by simpa [lt2, lp] using hlb
            have hge : i + 1 ≤ lp L s := by
              have h1 := lpJ_mono L s (i + 1) L.length (by omega)
              have h2 := lpJ_here HX.out
              dsimp only at h2
              unfold lp
              omega
            obtain ⟨i2, hi2⟩ : ∃ i2, lp L s = i2 + 1 := ⟨lp L s - 1, by omega⟩
            obtain ⟨e2, he2, hlo⟩ := lo_place (n := k2) hi2
            have hc2 : e2.c = s := by
              have h5 : lo (rws L k2) s = some (rwA (rsL L) k2 i2 e2) := hlo
              have : lpJ L s L.length = i2 + 1 := hi2
              exact lpJ_client this he2
            have hn2 := HAP.out i2 e2 (by omega) he2 hc2.symm
            have hV := ak_at HGD.out h4 ⟨hs0, hs1⟩ hs2 he2 hi2
            rw [if_neg (by omega), if_pos hn2] at hV
            have hE := ak_ok (k := (k2 : Int)) HGD.out (by omega) (by omega) ⟨hs0, hs1⟩ hs2
            have ca := CA.out (W1.drewN qn) (H.out.later BW.out) s N
            rw [hV, hE] at ca
            dsimp only [rV, zR] at ca
            clear hlp hge hi2 hlo hn2 hV hE hc2 he2
            go_wp2_with fail
            refine ca.mono ?_
            rintro e w3 ⟨rfl, b3⟩
            have z3 := b3.size
            have bb3 := hide ((BW.out.trans (b3.mono BW.out.size)).alloc (by have := BW.out.size; omega) (.cells #[.int .i64 0, .int .i64 0, .string ByteArray.empty] 43))
            clear ca b3
            go_wp2_with (go_at_call 12; refine (num_any _ _).mono ?_; rintro e w9 ⟨rfl, hw9⟩; have hw9 := hw9.symm; subst hw9)
            go_round
            case rel => exact ⟨i + 1, by go_num, by omega, bb3.out⟩
            case measure => simp [intOf]; omega
          | false =>
            have hlp : lp L s = i + 1 := by simpa [lt2, lp] using hlb
            have hlt0 : lp (L.take k0) s = i + 1 := by
              unfold lp
              rw [List.length_take, Nat.min_eq_left h1, lpJ_take L s k0 k0 (Nat.le_refl _)]
              have g1 := lpJ_mono L s (i + 1) k0 (by omega)
              have g2 := lpJ_mono L s k0 L.length h1
              have g3 := lpJ_here HX.out
              dsimp only at g3
              unfold lp at hlp
              omega
            have hxt : (L.take k0)[i]? = some ⟨s, N, ⟨ok, os, ov⟩⟩ := by rw [List.getElem?_take, if_pos hlt]; exact HX.out
            have hV1 := ak_at (k := k1) HGT.out (by simp; omega) ⟨hs0, hs1⟩ hs2 hxt hlt0
            have hE1 := ak_ok (k := (k1 : Int)) HGT.out (by omega) (by simp; omega) ⟨hs0, hs1⟩ hs2
            have hV2 := ak_at (k := k2) HGD.out h4 ⟨hs0, hs1⟩ hs2 HX.out hlp
            have hE2 := ak_ok (k := (k2 : Int)) HGD.out (by omega) (by omega) ⟨hs0, hs1⟩ hs2
            have hres : (rsL (L.take k0)).getD i zR = (rsL L).getD i zR := by
              rw [rsL_take, List.getD_eq_getElem?_getD, List.getD_eq_getElem?_getD, List.getElem?_take, if_pos hlt]
            rw [hres] at hV1
            dsimp only at hV1 hV2
            rw [if_neg (by omega), if_neg (by omega)] at hV1 hV2
            have hV3 : ∀ n : Int, N < n → akV L (k2 : Int) s n = (1, zR) := fun n hn => by
              rw [ak_at (k := k2) HGD.out h4 ⟨hs0, hs1⟩ (by omega) HX.out hlp]
              dsimp only
              rw [if_pos hn]
            have hE3 : ∀ n : Int, 1 ≤ n → akE L (k2 : Int) s n = 0 := fun n hn => ak_ok (k := (k2 : Int)) HGD.out (by omega) (by omega) ⟨hs0, hs1⟩ hn
            have V3 := hide hV3
            have E3 := hide hE3
            generalize (rsL L).getD i zR = R at *
            obtain ⟨r0, r1, r2⟩ := R
            clear hlp hlt0 hxt hres hV3 hE3
            have c1 := CE.out (W1.drewN qn) (H.out.later BW.out) s N
            have C2 := hide (fun W hW => CA.out W hW s N)
            rw [hE1] at c1
            rw [hE2] at C2
            clear hE1 hE2
            by_cases hc1 : i < k1
            · rw [if_pos hc1] at hV1
              rw [if_pos (by omega)] at hV2
              rw [hV1] at c1
              rw [hV2] at C2
              clear hV1 hV2
              have j1 : (i : Int) < (k1 : Int) := by omega
              have j2 : (i : Int) < (k2 : Int) := by omega
              have e2 : decide ((k2 : Int) ≤ (i : Int)) = false := by simp; omega
              dsimp only [rV, zR] at c1 C2
              go_wp2_with fail
              refine c1.mono ?_
              rintro e w3 ⟨rfl, b3⟩
              have z3 := b3.size
              have B3 := hide (b3.alloc z3 (.cells #[.int .i64 r0, .int .i64 r1, .string r2] 43))
              have bb3 := hide (BW.out.trans (B3.out.mono BW.out.size))
              have c2 := C2.out _ (H.out.later bb3.out)
              have z30 : gb + 1 ≤ w3.heap.size := by rw [← hzW.out]; exact z3
              obtain ⟨y0, y1⟩ := XW.out _ B3.out
              clear c1 C2 b3
              go_wp2_with fail
              refine c2.mono ?_
              rintro e w4 ⟨rfl, b4⟩
              have z4 := b4.size
              have z40 : w3.heap.size + 1 ≤ w4.heap.size := by simpa using z4
              obtain ⟨⟨t0, t1, t2⟩, _⟩ := box3 b4 (by simp)
              have B4 := hide ((B3.out.trans (b4.mono (by rw [World.size_alloc]; exact Nat.le_succ_of_le z3))).alloc (by rw [hzW.out]; omega) (.cells #[.int .i64 r0, .int .i64 r1, .string r2] 43))
              have bb4 := hide (BW.out.trans (B4.out.mono BW.out.size))
              obtain ⟨u0, u1⟩ := XW.out _ B4.out
              clear c2 b4 z4
              have hz34 : w3.heap.size < w4.heap.size := by omega
              have hgb4 : gb < w4.heap.size := by omega
              by_cases hmx2 : N < 9223372036854775807
              · have c3 := CA.out _ (H.out.later bb4.out) s (N + 1)
                rw [V3.out (N + 1) (by omega), E3.out (N + 1) (by omega)] at c3
                dsimp only [rV, zR] at c3
                have hwN : IntKind.i64.wrap (N + 1) = N + 1 := by rw [IntKind.wrap_i64]; omega
                go_wp2_with (go_at_call 12; refine (num_any _ _).mono ?_; rintro e w9 ⟨rfl, hw9⟩; have hw9 := hw9.symm; subst hw9)
                refine c3.mono ?_
                rintro e w5 ⟨rfl, b5⟩
                have z5 := b5.size
                have bb5 := hide ((bb4.out.trans (b5.mono bb4.out.size)).alloc (by have := bb4.out.size; omega) (.cells #[.int .i64 0, .int .i64 0, .string ByteArray.empty] 43))
                clear c3 b5
                go_wp2_with (go_at_call 12; refine (num_any _ _).mono ?_; rintro e w9 ⟨rfl, hw9⟩; have hw9 := hw9.symm; subst hw9)
                go_round
                case rel => exact ⟨i + 1, by go_num, by omega, bb5.out⟩
                case measure => simp [intOf]; omega
              · have hmx3 : ¬ N < 9223372036854775807 := hmx2
                have dmx : decide (N < 9223372036854775807) = false := by simpa using hmx2
                go_wp2_with (go_at_call 12; refine (num_any _ _).mono ?_; rintro e w9 ⟨rfl, hw9⟩; have hw9 := hw9.symm; subst hw9)
                go_round
                case rel => exact ⟨i + 1, by go_num, by omega, bb4.out⟩
                case measure => simp [intOf]; omega
            · by_cases hc2 : i < k2
              · rw [if_neg hc1] at hV1
                rw [if_pos hc2] at hV2
                rw [hV1] at c1
                rw [hV2] at C2
                clear hV1 hV2
                have e1 : decide ((i : Int) < (k1 : Int)) = false := by simp; omega
                have j1 : (k1 : Int) ≤ (i : Int) := by omega
                have j2 : (i : Int) < (k2 : Int) := by omega
                have e2 : decide ((k2 : Int) ≤ (i : Int)) = false := by simp; omega
                dsimp only [rV, zR] at c1 C2
                go_wp2_with fail
                refine c1.mono ?_
                rintro e w3 ⟨rfl, b3⟩
                have z3 := b3.size
                have B3 := hide (b3.alloc z3 (.cells #[.int .i64 0, .int .i64 0, .string ByteArray.empty] 43))
                have bb3 := hide (BW.out.trans (B3.out.mono BW.out.size))
                have c2 := C2.out _ (H.out.later bb3.out)
                have z30 : gb + 1 ≤ w3.heap.size := by rw [← hzW.out]; exact z3
                obtain ⟨y0, y1⟩ := XW.out _ B3.out
                clear c1 C2 b3
                go_wp2_with fail
                refine c2.mono ?_
                rintro e w4 ⟨rfl, b4⟩
                have z4 := b4.size
                have z40 : w3.heap.size + 1 ≤ w4.heap.size := by simpa using z4
                obtain ⟨⟨t0, t1, t2⟩, _⟩ := box3 b4 (by simp)
                have B4 := hide ((B3.out.trans (b4.mono (by rw [World.size_alloc]; exact Nat.le_succ_of_le z3))).alloc (by rw [hzW.out]; omega) (.cells #[.int .i64 r0, .int .i64 r1, .string r2] 43))
                have bb4 := hide (BW.out.trans (B4.out.mono BW.out.size))
                obtain ⟨u0, u1⟩ := XW.out _ B4.out
                clear c2 b4 z4
                have hz34 : w3.heap.size < w4.heap.size := by omega
                have hgb4 : gb < w4.heap.size := by omega
                by_cases hmx2 : N < 9223372036854775807
                · have c3 := CA.out _ (H.out.later bb4.out) s (N + 1)
                  rw [V3.out (N + 1) (by omega), E3.out (N + 1) (by omega)] at c3
                  dsimp only [rV, zR] at c3
                  have hwN : IntKind.i64.wrap (N + 1) = N + 1 := by rw [IntKind.wrap_i64]; omega
                  go_wp2_with (go_at_call 12; refine (num_any _ _).mono ?_; rintro e w9 ⟨rfl, hw9⟩; have hw9 := hw9.symm; subst hw9)
                  refine c3.mono ?_
                  rintro e w5 ⟨rfl, b5⟩
                  have z5 := b5.size
                  have bb5 := hide ((bb4.out.trans (b5.mono bb4.out.size)).alloc (by have := bb4.out.size; omega) (.cells #[.int .i64 0, .int .i64 0, .string ByteArray.empty] 43))
                  clear c3 b5
                  go_wp2_with (go_at_call 12; refine (num_any _ _).mono ?_; rintro e w9 ⟨rfl, hw9⟩; have hw9 := hw9.symm; subst hw9)
                  go_round
                  case rel => exact ⟨i + 1, by go_num, by omega, bb5.out⟩
                  case measure => simp [intOf]; omega
                · have hmx3 : ¬ N < 9223372036854775807 := hmx2
                  have dmx : decide (N < 9223372036854775807) = false := by simpa using hmx2
                  go_wp2_with (go_at_call 12; refine (num_any _ _).mono ?_; rintro e w9 ⟨rfl, hw9⟩; have hw9 := hw9.symm; subst hw9)
                  go_round
                  case rel => exact ⟨i + 1, by go_num, by omega, bb4.out⟩
                  case measure => simp [intOf]; omega
              · rw [if_neg hc1] at hV1
                rw [if_neg hc2] at hV2
                rw [hV1] at c1
                rw [hV2] at C2
                clear hV1 hV2
                have e1 : decide ((i : Int) < (k1 : Int)) = false := by simp; omega
                have j1 : (k1 : Int) ≤ (i : Int) := by omega
                have j2 : (k2 : Int) ≤ (i : Int) := by omega
                have e2 : decide ((k2 : Int) ≤ (i : Int)) = true := by simp; omega
                dsimp only [rV, zR] at c1 C2
                go_wp2_with fail
                refine c1.mono ?_
                rintro e w3 ⟨rfl, b3⟩
                have z3 := b3.size
                have B3 := hide (b3.alloc z3 (.cells #[.int .i64 0, .int .i64 0, .string ByteArray.empty] 43))
                have bb3 := hide (BW.out.trans (B3.out.mono BW.out.size))
                have c2 := C2.out _ (H.out.later bb3.out)
                have z30 : gb + 1 ≤ w3.heap.size := by rw [← hzW.out]; exact z3
                obtain ⟨y0, y1⟩ := XW.out _ B3.out
                clear c1 C2 b3
                go_wp2_with fail
                refine c2.mono ?_
                rintro e w4 ⟨rfl, b4⟩
                have z4 := b4.size
                have z40 : w3.heap.size + 1 ≤ w4.heap.size := by simpa using z4
                obtain ⟨⟨t0, t1, t2⟩, _⟩ := box3 b4 (by simp)
                have B4 := hide ((B3.out.trans (b4.mono (by rw [World.size_alloc]; exact Nat.le_succ_of_le z3))).alloc (by rw [hzW.out]; omega) (.cells #[.int .i64 0, .int .i64 0, .string ByteArray.empty] 43))
                have bb4 := hide (BW.out.trans (B4.out.mono BW.out.size))
                obtain ⟨u0, u1⟩ := XW.out _ B4.out
                clear c2 b4 z4
                have hz34 : w3.heap.size < w4.heap.size := by omega
                have hgb4 : gb < w4.heap.size := by omega
                by_cases hmx2 : N < 9223372036854775807
                · have c3 := CA.out _ (H.out.later bb4.out) s (N + 1)
                  rw [V3.out (N + 1) (by omega), E3.out (N + 1) (by omega)] at c3
                  dsimp only [rV, zR] at c3
                  have hwN : IntKind.i64.wrap (N + 1) = N + 1 := by rw [IntKind.wrap_i64]; omega
                  go_wp2_with (go_at_call 12; refine (num_any _ _).mono ?_; rintro e w9 ⟨rfl, hw9⟩; have hw9 := hw9.symm; subst hw9)
                  refine c3.mono ?_
                  rintro e w5 ⟨rfl, b5⟩
                  have z5 := b5.size
                  have bb5 := hide ((bb4.out.trans (b5.mono bb4.out.size)).alloc (by have := bb4.out.size; omega) (.cells #[.int .i64 0, .int .i64 0, .string ByteArray.empty] 43))
                  clear c3 b5
                  go_wp2_with (go_at_call 12; refine (num_any _ _).mono ?_; rintro e w9 ⟨rfl, hw9⟩; have hw9 := hw9.symm; subst hw9)
                  go_round
                  case rel => exact ⟨i + 1, by go_num, by omega, bb5.out⟩
                  case measure => simp [intOf]; omega
                · have hmx3 : ¬ N < 9223372036854775807 := hmx2
                  have dmx : decide (N < 9223372036854775807) = false := by simpa using hmx2
                  go_wp2_with (go_at_call 12; refine (num_any _ _).mono ?_; rintro e w9 ⟨rfl, hw9⟩; have hw9 := hw9.symm; subst hw9)
                  go_round
                  case rel => exact ⟨i + 1, by go_num, by omega, bb4.out⟩
                  case measure => simp [intOf]; omega
    · obtain rfl : i = k0 := by omega
      go_wp2
      go_ret
      exact ⟨rfl, hb⟩
theorem stays_came (a : Option Addr) (len cap : Nat) (cm lt ct : Int) (W : World) (h : CameE W a len cap) :
    Calls Try.prog 7 #[.slice a len cap, .int .i64 cm, .int .i64 lt, .int .i64 ct] W fun e w' => e = .returned (.bool true) ∧ Below W.heap.size W w' := by
  obtain ⟨P, hs, hf, hm⟩ := h
  obtain rfl := hs.len
  by_cases hg : lg P 256 = 0 ∧ 0 ≤ ct ∧ ct ≤ P.length ∧ 0 ≤ cm ∧ cm ≤ ct ∧ cm ≤ lt ∧ lt ≤ P.length
  · obtain ⟨g0, g1, g2, g3, g4, g5, g6⟩ := hg
    obtain ⟨k0, rfl⟩ : ∃ k : Nat, ct = (k : Int) := ⟨ct.toNat, by omega⟩
    obtain ⟨k1, rfl⟩ : ∃ k : Nat, cm = (k : Int) := ⟨cm.toNat, by omega⟩
    obtain ⟨k2, rfl⟩ : ∃ k : Nat, lt = (k : Int) := ⟨lt.toNat, by omega⟩
    exact stays_good P a cap k1 k2 k0 W hs hf g0 (by omega) (by omega) (by omega) (by omega)
  · exact stays_bad P a cap cm lt ct W hs hf hg

end Go.Proofs.Ytdddbfincmodjaa
