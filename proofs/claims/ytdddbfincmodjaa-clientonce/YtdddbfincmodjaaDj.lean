import Derived.Test.YtdddbfincmodjaaDi
namespace Go.Proofs.Ytdddbfincmodjaa
open Go.RowKit Go.Maps
open Classical
set_option linter.unusedVariables false
set_option linter.unusedSimpArgs false

set_option maxRecDepth 100000 in
set_option maxHeartbeats 4000000 in
theorem once_walk (L : List En) (a : Option Addr) (c : Nat) (w : World) (h : SlY yE w a L.length c L) (hf : ∀ e ∈ L, e.fits) :
    Calls Try.prog 6 #[.slice a L.length c] w fun e w' => e = .returned (.bool true) ∧ Below w.heap.size w w' := by
  have hmx := h.max
  have hcp := h.cap
  unfold maxLen at hmx
  have H := hide h
  clear h
  go_enter Try.func6, Try.ntmps6
  go_wp2_with fail
  refine (alive_any w).mono ?_
  rintro e w1 ⟨rfl, b1⟩
  have z1 := b1.size
  have cb := between_any L a c 0 (L.length : Int) w1 (H.out.later b1) hf
  rw [ckB_len] at cb
  go_wp2_with fail
  refine cb.mono ?_
  rintro e w2 ⟨a2, n2, c2, rfl, s2, _, b2⟩
  have z2 := b2.size
  have bb2 := b1.trans (b2.mono z1)
  have ct := table_any L a c (L.length : Int) w2 (H.out.later bb2) hf
  rw [ckB_len] at ct
  clear cb b1
  go_wp2_with fail
  refine ct.mono ?_
  rintro e w3 ⟨v3, rfl, o3, b3⟩
  have z3 := b3.size
  have bb3 := bb2.trans (b3.mono (by omega))
  have s2' := s2.later b3
  obtain ⟨a3, c3, rfl, s3, _⟩ := o3.sl kR
  have cl := reflog_any L a c 256 w3 (H.out.later bb3) hf
  have HF := hide hf
  clear ct b2 bb2 b3 o3 s2 hf
  by_cases hx : lg L 256 = 0
  · obtain ⟨hlen, hok⟩ := lg_zero hx
    have hl : L.length ≤ 256 := by omega
    have hbt : btw L 0 (L.length : Int) = rws L L.length := by
      unfold btw
      rw [ckB_len, hx]
      simp only [if_true, Int.toNat_natCast, Int.toNat_zero, List.drop_zero]
      exact List.take_of_length_le (by rw [rws_length]; exact Nat.le_refl _)
    have htb : tbl L (L.length : Int) = tb L L.length 16 := by
      unfold tbl
      rw [ckB_len, hx]
      simp
    rw [hbt] at s2'
    rw [htb] at s3 ⊢
    have hn2 : n2 = L.length := by rw [← s2'.len, rws_length]
    subst hn2
    rw [hx] at cl ⊢
    have m2 := s2'.max
    have p2 := s2'.cap
    have m3 := s3.max
    have p3 := s3.cap
    have hK := tb_length_le L L.length 16
    unfold maxLen at m2 m3
    have HOK := hide hok
    have S2 := hide s2'
    have S3 := hide s3
    have BB := hide bb3
    clear s2' s3 hbt htb hok bb3 hx hlen
    generalize hKK : (tb L L.length 16).length = K at *
    have HK := hide hKK
    clear hKK
    go_wp2_with (first
      | (go_at_call 12; refine (num_any _ _).mono ?_; rintro e w4 ⟨rfl, hw4⟩; have hw4 := hw4.symm; subst hw4)
      | (go_at_call 20; refine cl.mono ?_; rintro e w5 ⟨rfl, b5⟩)
      | (go_at_call 21; refine (new_b _ _ _ (Below.refl _ _) (Nat.le_refl _)).mono ?_; rintro e w6 ⟨rfl, l6, z6⟩))
    have HB5 := hide b5
    have BW : Hid (∀ W, Below w5.heap.size w5 W → Below w.heap.size w W) := fun W hW => BB.out.trans ((HB5.out.mono (by omega)).trans (hW.mono (by have := HB5.out.size; omega)))
    have S25 := hide (S2.out.later b5)
    have S35 := hide (S3.out.later b5)
    have z5 := b5.size
    have A6 : Hid (Arr (w6.alloc (.cells (Array.replicate 16 (.int .i64 0)) 55)) (w5.heap.size + 1) 55 (laL L 0)) := by
      show Arr _ _ _ _
      rw [la_zero, ← z6]
      exact Arr.new w6 55 16 (.int .i64 0) (by omega)
    have L6 := hide (l6.on ((Below.refl _ w6).alloc (Nat.le_refl _) (.cells (Array.replicate 16 (.int .i64 0)) 55)))
    have hg0 : ¬ w5.heap.size + 1 = w5.heap.size := by omega
    have HQ : Hid (∀ (j : Nat) (e : En), L[j]? = some e → ∃ q o, a = some ⟨q, o, none⟩ ∧ q < w.heap.size ∧ ∀ W, Below w5.heap.size w5 W → W.cell? ⟨q, o + j * 5, none⟩ = some (.int .i64 e.c) ∧ W.cell? ⟨q, o + j * 5 + 1, none⟩ = some (.int .i64 e.n) ∧ W.cell? ⟨q, o + j * 5 + 2, none⟩ = some (.int .i64 e.o.k) ∧ W.cell? ⟨q, o + j * 5 + 3, none⟩ = some (.int .i64 e.o.s) ∧ W.cell? ⟨q, o + j * 5 + 4, none⟩ = some (.string e.o.v)) := fun j e he => by
      obtain ⟨q, o, ea, hq, _⟩ := H.out.en he
      refine ⟨q, o, ea, hq, fun W hW => ?_⟩
      obtain ⟨q', o', ea', _, h5⟩ := (H.out.later (BW.out W hW)).en he
      rw [ea] at ea'
      cases ea'
      exact h5
    have hwz : w.heap.size ≤ w5.heap.size := by omega
    clear l6 b5 cl S2 S3 BB HB5 z6
    generalize hB : w5.heap.size = B at *
    have HBB := hide hB
    clear hB
    go_loopw [9] (fun i wr => ∃ j : Nat, i = .int .i64 (j : Int) ∧ j ≤ L.length ∧ LedB B w5 wr B (pl [] ((L.map En.o).take j)) ∧ Arr wr (B + 1) 55 (laL L j)) (fun i _ => L.length - (intOf i).toNat)
    case atStart => exact ⟨0, rfl, Nat.zero_le _, L6.out, A6.out⟩
    case round =>
      obtain ⟨j, rfl, hj, F, hA⟩ := hrel
      have hFb := F.bel
      by_cases hlt : j < L.length
      · have he : L[j]? = some L[j] := List.getElem?_eq_getElem hlt
        have hfj := (HF.out L[j] (List.getElem_mem hlt)).ow
        obtain ⟨q, o, ea, hq, hqc⟩ := HQ.out j _ he
        have hbl := hFb
        rw [← HBB.out] at hbl
        have hrw := rws_full he
        obtain ⟨q2, o2, ea2, hq2, d0, d1, d2, d3, d4, d5, d6⟩ := (S25.out.later hbl).rw hrw
        obtain ⟨hc0, hc1, _⟩ := okL_entry HOK.out he
        have hpt : pl [] ((L.map En.o).take (j + 1)) = dn (pl [] ((L.map En.o).take j)) L[j].o.k L[j].o.s L[j].o.v := pl_take [] (by rw [List.getElem?_map, he]; rfl)
        obtain ⟨cn, hcn⟩ : ∃ cn : Nat, L[j].c = (cn : Int) := ⟨L[j].c.toNat, by omega⟩
        have hls := la_step he hcn
        have hap : Hid (∀ (i : Nat) (p : En), i < j → L[i]? = some p → p.c = L[j].c → p.n < L[j].n) := fun i p hi hp hc => okL_apart HOK.out hi hp he hc
        subst ea ea2
        generalize L[j] = e at *
        obtain ⟨C, N, ⟨k, s, v⟩⟩ := e
        dsimp only at d0 d1 d2 d3 d4 d5 d6 hqc hc0 hc1 hcn hpt hap hfj
        subst hcn
        generalize pl [] ((L.map En.o).take j) = Lj at *
        have cdo := do_keep B w5 B Lj k s v hfj
        obtain ⟨s0, s1, s2, hwd⟩ : ∃ s0 s1 s2, wd Lj k s v = (s0, s1, s2) := ⟨_, _, _, rfl⟩
        rw [hwd] at d4 d5 d6 cdo
        dsimp only at d4 d5 d6 cdo
        have hlt2 := F.lt.2
        have hgb : ¬ wr.heap.size = B := by omega
        have hqB : ¬ q = B := by omega
        have hzb := hbl.size
        have bA := (Below.refl _ wr).alloc (Nat.le_refl _) (.cells #[.int .i64 (cn : Int), .int .i64 N, .int .i64 ((j : Int) + 1), .bool true, .int .i64 s0, .int .i64 s1, .string s2] 57)
        have FA := hide (F.on bA)
        have AA := hide (hA.later bA)
        have hgaw := hA.lt
        have hgag : ¬ B + 1 = wr.heap.size := by omega
        obtain ⟨gb, hgbe⟩ : ∃ gb, gb = wr.heap.size := ⟨_, rfl⟩
        have KS : ∀ v', Below wr.heap.size wr v' → Below (wr.heap.size + 1) (wr.alloc (.cells #[.int .i64 (cn : Int), .int .i64 N, .int .i64 ((j : Int) + 1), .bool true, .int .i64 s0, .int .i64 s1, .string s2] 57)) v' → (v'.cell? ⟨gb, 0, none⟩ = some (.int .i64 (cn : Int)) ∧ v'.cell? ⟨gb, 1, none⟩ = some (.int .i64 N) ∧ v'.cell? ⟨gb, 2, none⟩ = some (.int .i64 ((j : Int) + 1)) ∧ v'.cell? ⟨gb, 3, none⟩ = some (.bool true) ∧ v'.cell? ⟨gb, 4, none⟩ = some (.int .i64 s0) ∧ v'.cell? ⟨gb, 5, none⟩ = some (.int .i64 s1) ∧ v'.cell? ⟨gb, 6, none⟩ = some (.string s2) ∧ v'.cell? ⟨q, o + j * 5, none⟩ = some (.int .i64 (cn : Int)) ∧ v'.cell? ⟨q, o + j * 5 + 1, none⟩ = some (.int .i64 N) ∧ v'.cell? ⟨q, o + j * 5 + 2, none⟩ = some (.int .i64 k) ∧ v'.cell? ⟨q, o + j * 5 + 3, none⟩ = some (.int .i64 s) ∧ v'.cell? ⟨q, o + j * 5 + 4, none⟩ = some (.string v)) := fun v' b' b'' => by
          obtain ⟨h0, h1, h2, h3, h4⟩ := hqc v' (hFb.trans (b'.mono (by omega)))
          obtain ⟨x0, x1, x2, x3, x4, x5, x6⟩ := box7 b'' (by omega)
          rw [hgbe]
          exact ⟨x0, x1, x2, x3, x4, x5, x6, h0, h1, h2, h3, h4⟩
        have KH := hide KS
        have HPT := hide hpt
        have HLS := hide hls
        have HGB := hide hgbe
        have FF := hide F
        have BWr := hide hFb
        have CDO := hide cdo
        have bAh := hide bA
        clear KS hpt hls hrw hA F cdo hwd he hgbe hFb hbl bA hqc
        rw [← HGB.out] at hgb hgag
        have hj0 : (0 : Int) ≤ (j : Int) := by omega
        have hj1 : (j : Int) < (L.length : Int) := by omega
        have hj2 : (j : Int) ≤ (L.length : Int) := by omega
        have hwj : IntKind.i64.wrap ((j : Int) + 1) = (j : Int) + 1 := by rw [IntKind.wrap_i64]; omega
        have hne : ((j : Int) + 1 != (j : Int) + 1) = false := by simp
        go_wp2_with fail
        rw [← HGB.out]
        go_region_held3 (fun v' => v'.cell? ⟨gb, 0, none⟩ = some (.int .i64 (cn : Int)) ∧ v'.cell? ⟨gb, 1, none⟩ = some (.int .i64 N) ∧ v'.cell? ⟨gb, 2, none⟩ = some (.int .i64 ((j : Int) + 1)) ∧ v'.cell? ⟨gb, 3, none⟩ = some (.bool true) ∧ v'.cell? ⟨gb, 4, none⟩ = some (.int .i64 s0) ∧ v'.cell? ⟨gb, 5, none⟩ = some (.int .i64 s1) ∧ v'.cell? ⟨gb, 6, none⟩ = some (.string s2) ∧ v'.cell? ⟨q, o + j * 5, none⟩ = some (.int .i64 (cn : Int)) ∧ v'.cell? ⟨q, o + j * 5 + 1, none⟩ = some (.int .i64 N) ∧ v'.cell? ⟨q, o + j * 5 + 2, none⟩ = some (.int .i64 k) ∧ v'.cell? ⟨q, o + j * 5 + 3, none⟩ = some (.int .i64 s) ∧ v'.cell? ⟨q, o + j * 5 + 4, none⟩ = some (.string v))
          (first | exact KH.out _ bAh.out.drew (by have := (Below.refl (wr.heap.size + 1) (wr.alloc (.cells #[.int .i64 (cn : Int), .int .i64 N, .int .i64 ((j : Int) + 1), .bool true, .int .i64 s0, .int .i64 s1, .string s2] 57))).drew; exact this) | assumption)
          (first | (go_at_call 22; refine (CDO.out _ (FA.out.on (Below.refl _ _).drew)).mono ?_; rintro r v8 ⟨rfl, l8, u8, k8⟩; have hk8 : v8.cell? ⟨gb, 0, none⟩ = some (.int .i64 (cn : Int)) ∧ v8.cell? ⟨gb, 1, none⟩ = some (.int .i64 N) ∧ v8.cell? ⟨gb, 2, none⟩ = some (.int .i64 ((j : Int) + 1)) ∧ v8.cell? ⟨gb, 3, none⟩ = some (.bool true) ∧ v8.cell? ⟨gb, 4, none⟩ = some (.int .i64 s0) ∧ v8.cell? ⟨gb, 5, none⟩ = some (.int .i64 s1) ∧ v8.cell? ⟨gb, 6, none⟩ = some (.string s2) ∧ v8.cell? ⟨q, o + j * 5, none⟩ = some (.int .i64 (cn : Int)) ∧ v8.cell? ⟨q, o + j * 5 + 1, none⟩ = some (.int .i64 N) ∧ v8.cell? ⟨q, o + j * 5 + 2, none⟩ = some (.int .i64 k) ∧ v8.cell? ⟨q, o + j * 5 + 3, none⟩ = some (.int .i64 s) ∧ v8.cell? ⟨q, o + j * 5 + 4, none⟩ = some (.string v) := (by obtain ⟨h0, h1, h2, h3, h4, h5, h6, h7, h8, h9, h10, h11⟩ := KH.out _ bAh.out.drew (by have := (Below.refl (wr.heap.size + 1) (wr.alloc (.cells #[.int .i64 (cn : Int), .int .i64 N, .int .i64 ((j : Int) + 1), .bool true, .int .i64 s0, .int .i64 s1, .string s2] 57))).drew; exact this); exact ⟨k8 _ _ _ hgb h0, k8 _ _ _ hgb h1, k8 _ _ _ hgb h2, k8 _ _ _ hgb h3, k8 _ _ _ hgb h4, k8 _ _ _ hgb h5, k8 _ _ _ hgb h6, k8 _ _ _ hqB h7, k8 _ _ _ hqB h8, k8 _ _ _ hqB h9, k8 _ _ _ hqB h10, k8 _ _ _ hqB h11⟩); have A8 := hide (AA.out.drew.upd u8 (fun h => h.elim hg0 (fun ⟨es, cl, e⟩ => AA.out.drew.kind es cl e)))))
        obtain ⟨x0, x1, x2, x3, x4, x5, x6, y0, y1, y2, y3, y4⟩ := hk8
        have L8 := hide l8
        have h8b : Hid (Below w5.heap.size w5 v8) := by show Below _ _ _; rw [HBB.out]; exact l8.bel
        have c8 := A8.out.cell (la_get L j (c := cn) (by omega))
        have f8 := A8.out.free cn
        clear l8 u8 k8 y0 y1 y2 y3 y4 x2 x3 x4 x5 x6 d0 d1 d2 d3 d4 d5 d6 KH AA FA FF CDO bAh BWr
        go_wp2_with fail
        go_loopw [11] (fun i ws => ∃ m qn : Nat, i = .int .i64 (m : Int) ∧ m ≤ j ∧ ws = v8.drewN qn) (fun i _ => j - (intOf i).toNat)
        case atStart => exact ⟨0, 0, rfl, Nat.zero_le _, rfl⟩
        case round =>
          obtain ⟨m, qn, rfl, hm, rfl⟩ := hrel
          by_cases hlm : m < j
          · have hgm : L[m]? = some L[m] := List.getElem?_eq_getElem (by omega)
            obtain ⟨q3, o3, ea3, _, f0, f1, f2, f3, f4, f5, f6⟩ := (S25.out.later h8b.out).rw (rws_full hgm)
            cases ea3
            have hap2 := hap.out m _ hlm hgm
            clear hgm f2 f3 f4 f5 f6
            generalize L[m] = p at *
            obtain ⟨Cp, Np, op⟩ := p
            dsimp only at f0 f1 hap2
            have hm0 : (0 : Int) ≤ (m : Int) := by omega
            have hm1 : (m : Int) < (L.length : Int) := by omega
            by_cases hc : Cp = (cn : Int)
            · subst hc
              have hn := hap2 rfl
              have hd1 : (Np == N) = false := by simp; omega
              have hd2 : decide (Np = N) = false := by simp; omega
              clear hap2
              go_wp2
              go_quiet (fail)
              go_wp2
              go_round
              case rel => exact ⟨m + 1, qn + nq, by go_num, by omega, by simp⟩
              case measure => simp [intOf]; omega
            · have hd1 : (Cp == (cn : Int)) = false := by simpa using hc
              have hd2 : decide (Cp = (cn : Int)) = false := by simpa using hc
              clear hap2
              go_wp2
              go_quiet (fail)
              go_wp2
              go_round
              case rel => exact ⟨m + 1, qn + nq, by go_num, by omega, by simp⟩
              case measure => simp [intOf]; omega
          · obtain rfl : m = j := by omega
            have AD := hide (A8.out.later (belN (Below.refl _ v8) qn))
            have LD := hide (L8.out.on (belN (Below.refl _ v8) qn))
            go_wp2
            go_round
            case rel => exact ⟨m + 1, by go_num, by omega, by rw [HPT.out]; exact LD.out.upd (S := fun i => i = B + 1) ((Upd.refl (fun i => i = B + 1) _).setCell (p := ⟨B + 1, cn, none⟩) (.inl rfl) _) (by rintro k rfl; omega) (fun e => hg0 e.symm) (by rintro k rfl; exact AD.out.kind), by rw [HLS.out]; exact AD.out.set cn _⟩
            case measure => simp [intOf]; omega
      · obtain rfl : j = L.length := by omega
        have hbl := F.bel
        rw [← HBB.out] at hbl
        have RR := hide (S25.out.later hbl)
        have TT := hide (S35.out.later hbl)
        have BF := hide (BW.out _ F.bel)
        have AH := hide hA
        obtain ⟨w9, hw9⟩ : ∃ w9, w9 = wr := ⟨_, rfl⟩
        subst hw9
        clear F hA hbl hFb
        go_wp2_with fail
        go_loopw [13, 12] (fun i kk ws => ∃ m qn : Nat, i = .int .i64 (m : Int) ∧ m ≤ 16 ∧ kk = .int .i64 ((tb L L.length m).length : Nat) ∧ ws = w9.drewN qn) (fun i _ _ => 16 - (intOf i).toNat)
        case atStart => exact ⟨0, 0, rfl, Nat.zero_le _, rfl, rfl⟩
        case round =>
          obtain ⟨m, qn, rfl, hm, rfl, rfl⟩ := hrel
          by_cases hlt : m < 16
          · have hcl := AH.out.cell (la_get L L.length (c := m) hlt)
            have hts := tb_succ L L.length m
            have hlj : lpJ L (m : Int) L.length = lp L (m : Int) := rfl
            rw [hlj] at hcl
            have hkm := tb_length_le L L.length m
            cases hlp : lp L (m : Int) with
            | zero =>
              rw [lo_noplace hlp] at hts
              rw [hlp] at hcl
              have HT := hide hts
              clear hts hlp hlj
              generalize htm : (tb L L.length m).length = km at *
              have HKM := hide htm
              clear htm
              go_wp2
              go_round
              case rel => exact ⟨m + 1, qn, by go_num, by omega, by rw [HT.out, HKM.out], rfl⟩
              case measure => simp [intOf]; omega
            | succ i =>
              obtain ⟨e, he, hlo⟩ := lo_place (n := L.length) hlp
              have hi := (List.getElem?_eq_some_iff.1 he).1
              have hK2 := tb_le_get hlo hlt
              obtain ⟨q2, o2, ea2, _, d0, d1, d2, d3, d4, d5, d6⟩ := RR.out.rw (rws_get L.length he)
              obtain ⟨q3, o3, ea3, _, f0, f1, f2, f3, f4, f5, f6⟩ := TT.out.rw (tb_get hlo 16 hlt)
              rw [hlo] at hts
              rw [hlp, show ((i + 1 : Nat) : Int) = (i : Int) + 1 by omega] at hcl
              rw [HK.out] at hK2
              have HT : Hid ((tb L L.length (m + 1)).length = (tb L L.length m).length + 1) := by show _ = _; rw [hts, List.length_append]; rfl
              generalize rwA (rsL L) L.length i e = r at *
              obtain ⟨C, N, P, d, s0, s1, s2⟩ := r
              dsimp only at d0 d1 d2 d3 d4 d5 d6 f0 f1 f2 f3 f4 f5 f6
              clear hts hlp hlj hlo he
              generalize htm : (tb L L.length m).length = km at *
              clear htm
              subst ea2 ea3
              have hi0 : (0 : Int) ≤ (i : Int) := by omega
              have hi1 : (i : Int) < (L.length : Int) := by omega
              have hi2 : (i : Int) ≤ (L.length : Int) := by omega
              have hw2 : IntKind.i64.wrap (i : Int) = (i : Int) := by rw [IntKind.wrap_i64]; omega
              have hw3 : (i : Int) + 1 - 1 = (i : Int) := by omega
              have hne0 : ((i : Int) + 1 == 0) = false := by simp; omega
              have hne1 : ¬ (i : Int) + 1 = 0 := by omega
              have hk0 : (0 : Int) ≤ (km : Int) := by omega
              have hk1 : (km : Int) < (K : Int) := by omega
              have hk2 : decide ((K : Int) ≤ (km : Int)) = false := by simp; omega
              have hm0 : (0 : Int) ≤ (m : Int) := by omega
              have hm1 : (m : Int) < 16 := by omega
              go_wp2
              go_quiet (fail)
              go_wp2
              go_round
              case rel => exact ⟨m + 1, qn + nq, by go_num, by omega, by rw [HT.out]; go_num, by simp⟩
              case measure => simp [intOf]; omega
          · obtain rfl : m = 16 := by omega
            rw [HK.out]
            go_wp2
            go_ret
            exact ⟨rfl, belN BF.out qn⟩
  · have hn2 : n2 = 0 := by
      have := s2'.len
      unfold btw at this
      rw [ckB_len] at this
      simp [hx] at this
      omega
    have hn3 : (tbl L (L.length : Int)).length = 0 := by
      unfold tbl
      rw [ckB_len]
      simp [hx]
    rw [hn3]
    subst hn2
    generalize lg L 256 = x at *
    have BB := hide bb3
    clear s2' s3 hn3 bb3
    go_wp2_with (first
      | (go_at_call 12; refine (num_any _ _).mono ?_; rintro e w4 ⟨rfl, hw4⟩; subst hw4)
      | (go_at_call 20; refine cl.mono ?_; rintro e w5 ⟨rfl, b5⟩))
    go_ret
    exact ⟨rfl, BB.out.trans (b5.mono (by omega))⟩

theorem once_came (a : Option Addr) (len cap : Nat) (W : World) (h : CameE W a len cap) :
    Calls Try.prog 6 #[.slice a len cap] W fun e w' => e = .returned (.bool true) ∧ Below W.heap.size W w' := by
  obtain ⟨P, hs, hf, hm⟩ := h
  obtain rfl := hs.len
  exact once_walk P a cap W hs hf

end Go.Proofs.Ytdddbfincmodjaa
