import Derived.Test.YtdfoafpcoigklaaJb
import Derived.Deep.DeepCutAuto
namespace Go.Proofs.Ytdfoafpcoigklaa
open Go.RowKit Go.Maps
open Classical
set_option linter.unusedVariables false
set_option linter.unusedSimpArgs false

/-- An operation that was brought into its bounds may be. -/
theorem ck_ok {K S : Int} {V : ByteArray} (h : (K = 1 ∧ (0 ≤ S ∧ S ≤ 1023) ∧ V.size ≤ 64) ∨ (K = 2 ∧ S = 0 ∧ V.size ≤ 64) ∨ (K = 3 ∧ (0 ≤ S ∧ S ≤ 1023) ∧ V.size = 0) ∨ (K = 4 ∧ S = 0 ∧ V.size = 0)) : ck K S V = 0 ∧ (⟨K, S, V⟩ : Opn).fits := by
  rcases h with ⟨rfl, h1, h2⟩ | ⟨rfl, rfl, h2⟩ | ⟨rfl, h1, h2⟩ | ⟨rfl, rfl, h2⟩
  · have a1 : ¬ (S < 0 ∨ 1024 ≤ S) := by omega
    have a2 : ¬ (64 < V.size) := by omega
    refine ⟨by simp [ck, a1, a2], ⟨(by decide : (Lit.int .i64 1).wf = true), (wf_i64 (by omega) : (Lit.int .i64 S).wf = true), by show V.size ≤ maxLen; unfold maxLen; omega⟩⟩
  · have a2 : ¬ (64 < V.size) := by omega
    refine ⟨by simp [ck, a2], ⟨(by decide : (Lit.int .i64 2).wf = true), (by decide : (Lit.int .i64 0).wf = true), by show V.size ≤ maxLen; unfold maxLen; omega⟩⟩
  · have a1 : ¬ (S < 0 ∨ 1024 ≤ S) := by omega
    have a2 : ¬ (0 < V.size) := by omega
    refine ⟨by simp [ck, a1, h2], ⟨(by decide : (Lit.int .i64 3).wf = true), (wf_i64 (by omega) : (Lit.int .i64 S).wf = true), by show V.size ≤ maxLen; unfold maxLen; omega⟩⟩
  · refine ⟨by simp [ck, h2], ⟨(by decide : (Lit.int .i64 4).wf = true), (by decide : (Lit.int .i64 0).wf = true), by show V.size ≤ maxLen; unfold maxLen; omega⟩⟩
set_option maxRecDepth 100000 in
set_option maxHeartbeats 8000000 in
theorem grown_any (R : List En) (a : Option Addr) (n c : Nat) (room : Int) (h1 : 1 ≤ room) (h2 : room ≤ 256) (w : World) (h : SlY yW w a n c R) (hf : ∀ e ∈ R, e.fits) :
    Calls Try.prog 45 #[.slice a n c, .int .i64 room] w fun e w' => ∃ v L, e = .returned (.tuple #[v, .bool true]) ∧ OwnY yE w.heap.size w' v L ∧ GL L room ∧ Below w.heap.size w w' := by
  have hln := h.len
  have hcp := h.cap
  have hmx := h.max
  unfold maxLen at hmx
  have H := hide h
  have HN := hide hln
  have HF := hide hf
  clear h hln hf
  go_enter Try.func45, Try.ntmps45
  go_wp2
  go_loopw [7, 6] (fun i v wr => ∃ (j : Nat) (L : List En), i = .int .i64 (j : Int) ∧ j ≤ n ∧ OwnY yE w.heap.size wr v L ∧ Hid (GL L room) ∧ Below w.heap.size w wr) (fun i _ _ => n - (intOf i).toNat)
  case atStart => exact ⟨0, [], rfl, Nat.zero_le _, OwnY.nil _ _ _, hide (GL.nil h1 h2), Below.refl _ _⟩
  case round =>
    obtain ⟨j, L, rfl, hj, ho, hG, hb⟩ := hrel
    have hz := hb.size
    have O := hide ho
    obtain ⟨al, cl, hv0, hlc, hcm, _⟩ := ho.form
    have hLR := (chk_zero hG.out.ok).2.2.2
    have HLn : Hid (L.length = L.length) := rfl
    obtain ⟨ll, hll⟩ : ∃ ll, L.length = ll := ⟨_, rfl⟩
    rw [hll] at hv0 hlc hLR
    subst hv0
    have HLL := hide hll
    unfold maxLen at hcm
    clear ho hll HLn
    by_cases hlt : j < n
    · by_cases hlr : (ll : Int) < room
      · have hjl : j < R.length := by rw [HN.out]; exact hlt
        have hg : R[j]? = some R[j] := List.getElem?_eq_getElem hjl
        have hfx := HF.out _ (List.getElem_mem hjl)
        obtain ⟨q, o, rfl, hq, x0, x1, x2, x3, x4⟩ := (H.out.later hb).raw hg
        generalize R[j] = x at *
        obtain ⟨xc, xn, ⟨ok, os, ov⟩⟩ := x
        obtain ⟨fc, fn, ⟨fk, fs, fv⟩⟩ := hfx
        dsimp only at *
        have FC := hide fc
        have FN := hide fn
        have FK := hide fk
        have FSt := hide fs
        have FV := hide fv
        clear hg fc fn fk fs fv
        go_wp2_with fail
        refine (within6_any xc 15 FC.out (by omega) (by omega) wr).mono ?_
        rintro e w1 ⟨r1, rfl, ⟨p0, p1⟩, hw1⟩
        subst hw1
        go_wp2
        go_loopw [10, 9] (fun i g ws => ∃ k : Nat, i = .int .i64 (k : Int) ∧ k ≤ ll ∧ g = .int .i64 (ln (L.take k) r1) ∧ ws = w1) (fun i _ _ => ll - (intOf i).toNat)
        case atStart => exact ⟨0, rfl, Nat.zero_le _, rfl, rfl⟩
        case round =>
          obtain ⟨k, rfl, hk, rfl, e1⟩ := hrel
          have e1 := e1.symm
          subst e1
          by_cases hkl : k < ll
          · have hkL : k < L.length := by rw [HLL.out]; exact hkl
            have hgk : L[k]? = some L[k] := List.getElem?_eq_getElem hkL
            have hst := ln_take r1 hgk
            obtain ⟨q2, o2, rfl, _, y0, y1, _, _, _⟩ := (O.out.sl' kE).en hgk
            generalize L[k] = y at *
            obtain ⟨yc, yn, yo⟩ := y
            dsimp only at *
            have HST := hide hst
            clear hst hgk
            generalize ln (L.take k) r1 = G at *
            by_cases hc : yc = r1
            · have hE : Hid (yn = ln (L.take (k + 1)) r1) := by show _ = _; rw [HST.out]; simp [hc]
              subst hc
              go_wp2
              go_round
              case rel => exact ⟨k + 1, by go_num, by omega, by rw [← hE.out], trivial⟩
              case measure => simp [intOf]; omega
            · have hE : Hid (G = ln (L.take (k + 1)) r1) := by show _ = _; rw [HST.out]; simp [hc]
              have dn : decide (yc = r1) = false := by simpa using hc
              go_wp2
              go_round
              case rel => exact ⟨k + 1, by go_num, by omega, by rw [← hE.out], trivial⟩
              case measure => simp [intOf]; omega
          · obtain rfl : k = ll := by omega
            have hG0 := hG.out.num r1
            have hG1 := hG.out.fitn r1
            have hLT : L.take k = L := List.take_of_length_le (by rw [HLL.out]; exact Nat.le_refl _)
            rw [hLT]
            have HGN : Hid (ln L r1 = ln L r1) := rfl
            obtain ⟨G, hGe⟩ : ∃ G, ln L r1 = G := ⟨_, rfl⟩
            have HGE := hide hGe
            rw [hGe] at hG0 hG1 ⊢
            clear hGe HGN hLT
            go_wp2_with fail
            refine (within6_any ok 3 FK.out (by omega) (by omega) _).mono ?_
            rintro e w2 ⟨r2, rfl, ⟨p2, p3⟩, hw2⟩
            subst hw2
            go_wp2_with fail
            refine (within6_any os 1023 FSt.out (by omega) (by omega) _).mono ?_
            rintro e w3 ⟨r3, rfl, ⟨p4, p5⟩, hw3⟩
            subst hw3
            go_upto_if 68 with fail
            go_cut [] (fun wx => ∃ V : ByteArray, V.size ≤ 64 ∧ wx = w1.alloc (Obj.cells #[Value.int IntKind.i64 (1 + r2), Value.int IntKind.i64 r3, Value.string V] 39))
            case first =>
              by_cases hsz : 64 < ov.size
              · go_wp2_with fail
                go_meet
                case rel => exact ⟨ov.extract 0 64, by simp [ByteArray.size_extract]; omega, rfl⟩
              · go_wp2_with fail
                go_meet
                case rel => exact ⟨ov, by omega, rfl⟩
            case rest =>
              obtain ⟨V, hV, hwc⟩ := hcut
              subst hwc
              go_upto_region 17 with fail
              go_cut [80] (fun s wx => s = .bool (decide (r2 = 1 ∨ r2 = 3)) ∧ wx = w1.alloc (Obj.cells #[Value.int IntKind.i64 (1 + r2), Value.int IntKind.i64 r3, Value.string V] 39))
              case first =>
                rcases (by omega : r2 = 0 ∨ r2 = 1 ∨ r2 = 2 ∨ r2 = 3) with rfl | rfl | rfl | rfl
                all_goals
                  go_wp2_with fail
                  go_meet
                  case rel => exact ⟨rfl, rfl⟩
              case rest =>
                obtain ⟨rfl, hwc⟩ := hcut
                subst hwc
                go_upto_if 80 with fail
                go_cut [] (fun wx => ∃ S : Int, ((r2 = 1 ∨ r2 = 3) ∧ S = 0 ∨ ¬ (r2 = 1 ∨ r2 = 3) ∧ S = r3) ∧ wx = w1.alloc (Obj.cells #[Value.int IntKind.i64 (1 + r2), Value.int IntKind.i64 S, Value.string V] 39))
                case first =>
                  by_cases hc : r2 = 1 ∨ r2 = 3
                  · have hd : decide (r2 = 1 ∨ r2 = 3) = true := by simpa using hc
                    rw [hd]
                    go_wp2_with fail
                    go_meet
                    case rel => exact ⟨0, .inl ⟨hc, rfl⟩, rfl⟩
                  · have hd : decide (r2 = 1 ∨ r2 = 3) = false := by simpa using hc
                    rw [hd]
                    go_wp2_with fail
                    go_meet
                    case rel => exact ⟨r3, .inr ⟨hc, rfl⟩, rfl⟩
                case rest =>
                  obtain ⟨S, hS, hwc⟩ := hcut
                  subst hwc
                  go_upto_region 19 with fail
                  go_cut [89] (fun s wx => s = .bool (decide (r2 = 2 ∨ r2 = 3)) ∧ wx = w1.alloc (Obj.cells #[Value.int IntKind.i64 (1 + r2), Value.int IntKind.i64 S, Value.string V] 39))
                  case first =>
                    rcases (by omega : r2 = 0 ∨ r2 = 1 ∨ r2 = 2 ∨ r2 = 3) with rfl | rfl | rfl | rfl
                    all_goals
                      go_wp2_with fail
                      go_meet
                      case rel => exact ⟨rfl, rfl⟩
                  case rest =>
                    obtain ⟨rfl, hwc⟩ := hcut
                    subst hwc
                    go_upto_if 89 with fail
                    go_cut [] (fun wx => ∃ U : ByteArray, ((r2 = 2 ∨ r2 = 3) ∧ U = ⟨#[]⟩ ∨ ¬ (r2 = 2 ∨ r2 = 3) ∧ U = V) ∧ wx = w1.alloc (Obj.cells #[Value.int IntKind.i64 (1 + r2), Value.int IntKind.i64 S, Value.string U] 39))
                    case first =>
                      by_cases hc : r2 = 2 ∨ r2 = 3
                      · have hd : decide (r2 = 2 ∨ r2 = 3) = true := by simpa using hc
                        rw [hd]
                        go_wp2_with fail
                        go_meet
                        case rel => exact ⟨⟨#[]⟩, .inl ⟨hc, rfl⟩, rfl⟩
                      · have hd : decide (r2 = 2 ∨ r2 = 3) = false := by simpa using hc
                        rw [hd]
                        go_wp2_with fail
                        go_meet
                        case rel => exact ⟨V, .inr ⟨hc, rfl⟩, rfl⟩
                    case rest =>
                      obtain ⟨U, hU, hwc⟩ := hcut
                      obtain ⟨W5, rfl⟩ : ∃ W5, W5 = wc := ⟨_, rfl⟩
                      have hop : ((1 + r2 : Int) = 1 ∧ (0 ≤ S ∧ S ≤ 1023) ∧ U.size ≤ 64) ∨ ((1 + r2 : Int) = 2 ∧ S = 0 ∧ U.size ≤ 64) ∨ ((1 + r2 : Int) = 3 ∧ (0 ≤ S ∧ S ≤ 1023) ∧ U.size = 0) ∨ ((1 + r2 : Int) = 4 ∧ S = 0 ∧ U.size = 0) := by
                        have hs0 : (⟨#[]⟩ : ByteArray).size = 0 := rfl
                        rcases hU with ⟨h1, rfl⟩ | ⟨h1, rfl⟩ <;> rcases hS with ⟨h2, rfl⟩ | ⟨h2, rfl⟩ <;> omega
                      obtain ⟨hck, hof⟩ := ck_ok hop
                      have HCK := hide hck
                      have HOF := hide hof
                      have W5e := hwc
                      clear hwc hop hck hof hS hU hV p2 p3
                      obtain ⟨KK, hKK⟩ : ∃ KK, 1 + r2 = KK := ⟨_, rfl⟩
                      rw [hKK] at W5e HCK HOF
                      have HW5 := hide W5e.symm
                      clear hKK W5e
                      have b5 : Below w.heap.size w W5 := by rw [← HW5.out]; exact hb.alloc hz _
                      have z5 : W5.heap.size = w1.heap.size + 1 := by rw [← HW5.out]; simp
                      have O5 : Hid (OwnY yE w.heap.size W5 (.slice al k cl) L) := by show OwnY _ _ _ _ _; rw [← HW5.out]; exact O.out.alloc _
                      have c0 : W5.cell? ⟨w1.heap.size, 0, none⟩ = some (.int .i64 KK) := by rw [← HW5.out]; exact World.cell?_alloc_at _ _ _ _ rfl
                      have c1 : W5.cell? ⟨w1.heap.size, 1, none⟩ = some (.int .i64 S) := by rw [← HW5.out]; exact World.cell?_alloc_at _ _ _ _ rfl
                      have c2 : W5.cell? ⟨w1.heap.size, 2, none⟩ = some (.string U) := by rw [← HW5.out]; exact World.cell?_alloc_at _ _ _ _ rfl
                      have y1 : W5.cell? ⟨q, o + j * 5 + 1, none⟩ = some (.int .i64 xn) := by rw [← HW5.out]; exact (World.cell?_alloc_past _ _ _ hq).trans x1
                      clear HW5 x0 x1 x2 x3 x4
                      have HB5 := hide b5
                      have HZ5 := hide z5
                      clear b5 z5
                      by_cases hlast : G = 9223372036854775807
                      · go_wp2_with fail
                        exact ⟨⟨j + 1, L, by go_num, by omega, O5.out, hG, HB5.out⟩, by simp [intOf]; omega⟩
                      · have hlast2 : G < 9223372036854775807 := by omega
                        have dlast : decide (G = 9223372036854775807) = false := by simpa using hlast
                        have CW : Hid (∀ W : World, Calls Try.prog 46 #[.int .i64 xn, .int .i64 (min 1099511627776 (IntKind.i64.wrap (IntKind.i64.wrap (9223372036854775807 - G) - 1)))] W fun e w' => ∃ r : Int, e = .returned (.int .i64 r) ∧ (0 ≤ r ∧ r ≤ 9223372036854775807 - G - 1) ∧ w' = W) := fun W => by
                          have hw : IntKind.i64.wrap (IntKind.i64.wrap (9223372036854775807 - G) - 1) = 9223372036854775807 - G - 1 := by rw [IntKind.wrap_i64, IntKind.wrap_i64]; omega
                          rw [hw]
                          refine (within6_any xn (min 1099511627776 (9223372036854775807 - G - 1)) FN.out (by omega) (by omega) W).mono ?_
                          rintro e w' ⟨r, rfl, ⟨ha, hb⟩, hw⟩
                          exact ⟨r, rfl, ⟨ha, by omega⟩, hw⟩
                        go_wp2_with fail
                        go_cut [12] (fun s12 wx => ∃ N : Int, (G < N ∧ N ≤ 9223372036854775807) ∧ s12 = .pointer (some ⟨W5.heap.size, 0, none⟩) ∧ wx = (W5.alloc (.cells #[.int .i64 r1, .int .i64 N, .int .i64 KK, .int .i64 S, .string U] 41)).drew)
                        case first =>
                          go_region_held3 (fun v' => v'.cell? ⟨q, o + j * 5 + 1, none⟩ = some (.int .i64 xn) ∧ v'.cell? ⟨w1.heap.size, 0, none⟩ = some (.int .i64 KK) ∧ v'.cell? ⟨w1.heap.size, 1, none⟩ = some (.int .i64 S) ∧ v'.cell? ⟨w1.heap.size, 2, none⟩ = some (.string U)) (first | go_keep | (exact ⟨by go_simp, by go_simp, by go_simp, by go_simp⟩) | go_simp) (first | (go_at_call 46; refine (CW.out _).mono ?_; rintro e w6 ⟨r4, rfl, hq4, hw6⟩; subst hw6))
                          all_goals
                            have hnw : IntKind.i64.wrap (IntKind.i64.wrap (G + 1) + r4) = G + 1 + r4 := by rw [IntKind.wrap_i64, IntKind.wrap_i64]; omega
                            go_wp2_with fail
                            go_meet
                            case rel => exact ⟨G + 1 + r4, by omega, rfl, by rw [hnw]⟩
                        case rest =>
                          obtain ⟨N, ⟨hN1, hN2⟩, rfl, hwd⟩ := hcut
                          obtain ⟨W6, rfl⟩ : ∃ W6, W6 = wc := ⟨_, rfl⟩
                          have b6 : Below w.heap.size w W6 := by rw [hwd]; exact (HB5.out.alloc (by have := HB5.out.size; omega) _).drew
                          have z6 : W6.heap.size = W5.heap.size + 1 := by rw [hwd]; show (W5.alloc _).heap.size = _; simp
                          have O6 : OwnY yE w.heap.size W6 (.slice al k cl) L := by rw [hwd]; exact (O5.out.alloc _).grow ((Below.refl _ _).drew)
                          have d0 : W6.cell? ⟨W5.heap.size, 0, none⟩ = some (.int .i64 r1) := by rw [hwd]; show (W5.alloc _).cell? _ = _; exact World.cell?_alloc_at _ _ _ _ rfl
                          have d1 : W6.cell? ⟨W5.heap.size, 1, none⟩ = some (.int .i64 N) := by rw [hwd]; show (W5.alloc _).cell? _ = _; exact World.cell?_alloc_at _ _ _ _ rfl
                          have d2 : W6.cell? ⟨W5.heap.size, 2, none⟩ = some (.int .i64 KK) := by rw [hwd]; show (W5.alloc _).cell? _ = _; exact World.cell?_alloc_at _ _ _ _ rfl
                          have d3 : W6.cell? ⟨W5.heap.size, 3, none⟩ = some (.int .i64 S) := by rw [hwd]; show (W5.alloc _).cell? _ = _; exact World.cell?_alloc_at _ _ _ _ rfl
                          have d4 : W6.cell? ⟨W5.heap.size, 4, none⟩ = some (.string U) := by rw [hwd]; show (W5.alloc _).cell? _ = _; exact World.cell?_alloc_at _ _ _ _ rfl
                          have hrr : ¬ (r1 < 0 ∨ 16 ≤ r1) := by omega
                          have hNN : ¬ (N < 1) := by omega
                          have hfx : (⟨r1, N, ⟨KK, S, U⟩⟩ : En).fits := ⟨(wf_i64 (by omega) : (Lit.int .i64 r1).wf = true), (wf_i64 (by omega) : (Lit.int .i64 N).wf = true), HOF.out⟩
                          obtain ⟨hE, hZ, hG7⟩ := hG.out.snoc ⟨r1, N, ⟨KK, S, U⟩⟩ (by rw [HLL.out]; exact hlr) (by simp [ckE, hrr, hNN, HCK.out]) (by rw [HGE.out]; exact hN1) hfx
                          have CA := appendO_any L ⟨r1, N, ⟨KK, S, U⟩⟩ al k cl room W6 (O6.sl' kE) hG.out.fit hfx (by omega)
                          rw [hE, hZ] at CA
                          have HCA := hide CA
                          have HG7 := hide hG7
                          have HO6 := hide O6
                          have HB6 := hide b6
                          have HZ6 := hide z6
                          have hW56 : W5.heap.size < W6.heap.size := by omega
                          clear CA hG7 O6 b6 z6 hwd hE hZ hfx c0 c1 c2 y1 O5 HB5 HZ5 CW hrr hNN
                          dsimp only at HCA
                          go_wp2_with fail
                          refine HCA.out.mono ?_
                          rintro e w7 ⟨v7, rfl, o7, b7⟩
                          have e0 := (b7.cell (p := ⟨W5.heap.size, 0, none⟩) hW56).trans d0
                          have e1 := (b7.cell (p := ⟨W5.heap.size, 1, none⟩) hW56).trans d1
                          have e2 := (b7.cell (p := ⟨W5.heap.size, 2, none⟩) hW56).trans d2
                          have e3 := (b7.cell (p := ⟨W5.heap.size, 3, none⟩) hW56).trans d3
                          have e4 := (b7.cell (p := ⟨W5.heap.size, 4, none⟩) hW56).trans d4
                          obtain ⟨a7, c7, hv7, hc71, hc72, kn, kg⟩ := o7.form
                          obtain ⟨g7, rfl⟩ : ∃ g7, a7 = some ⟨g7, 0, none⟩ := by
                            cases a7 with
                            | none => exact absurd (kn rfl).1 (by simp)
                            | some z => obtain ⟨g7, hz7, _⟩ := kg z rfl; exact ⟨g7, by rw [hz7]⟩
                          have hl7 : (L ++ [(⟨r1, N, ⟨KK, S, U⟩⟩ : En)]).length = k + 1 := by rw [List.length_append, HLL.out]; rfl
                          rw [hl7] at hv7 hc71
                          subst hv7
                          have hgx : (L ++ [(⟨r1, N, ⟨KK, S, U⟩⟩ : En)])[k]? = some ⟨r1, N, ⟨KK, S, U⟩⟩ := by rw [List.getElem?_append_right (by rw [HLL.out]; exact Nat.le_refl _), HLL.out, Nat.sub_self]; rfl
                          have t7 := o7.cell kE k _ hgx
                          have f0 : w7.cell? ⟨g7, k * 5, none⟩ = some (.int .i64 r1) := t7 0 _ rfl
                          have f1 : w7.cell? ⟨g7, k * 5 + 1, none⟩ = some (.int .i64 N) := t7 1 _ rfl
                          have f2 : w7.cell? ⟨g7, k * 5 + 2, none⟩ = some (.int .i64 KK) := t7 2 _ rfl
                          have f3 : w7.cell? ⟨g7, k * 5 + 3, none⟩ = some (.int .i64 S) := t7 3 _ rfl
                          have f4 : w7.cell? ⟨g7, k * 5 + 4, none⟩ = some (.string U) := t7 4 _ rfl
                          have SF := hide (o7.front kE HLL.out)
                          have SL := hide (((HO6.out.sl' kE).later b7))
                          have CS : Hid (∀ n, Calls Try.prog 23 #[.slice (some ⟨g7, 0, none⟩) k c7, .slice al k cl] (w7.drewN n) fun e w'' => e = .returned (.bool true) ∧ ∃ m, w'' = w7.drewN m) := fun n => by
                            have hs := SF.out.drewN n
                            have hs2 := SL.out.drewN n
                            have hk := HLL.out
                            subst hk
                            refine (sameents_any L (some ⟨g7, 0, none⟩) al c7 cl (w7.drewN n) hs hs2).mono ?_
                            rintro e w' ⟨rfl, m, rfl⟩
                            exact ⟨rfl, n + m, by simp⟩
                          have O7 := hide (o7.low HB6.out.size)
                          have B7 := hide (HB6.out.trans (b7.mono HB6.out.size))
                          have qe := fun W => neqE r1 N KK S U r1 N KK S U W
                          simp only [decide_true, Bool.not_true] at qe
                          unfold maxLen at hc72
                          clear o7 t7 hgx SF SL kn kg HCA d0 d1 d2 d3 d4 b7 HO6 HB6 HZ6
                          go_wp2
                          go_quiet (first | (go_at_call 23; exact CS.out _))
                          go_wp2
                          exact ⟨⟨j + 1, L ++ [⟨r1, N, ⟨KK, S, U⟩⟩], by go_num, by omega, O7.out.grow (belN (Below.refl _ _) nq), HG7, belN B7.out nq⟩, by simp [intOf]; omega⟩
      · have dr : decide ((ll : Int) < room) = false := by simpa using hlr
        go_wp2
        go_ret2
        first | exact ⟨_, L, rfl, O.out, hG.out, hb⟩ | exact ⟨_, rfl, L, O.out, hG.out, hb⟩
    · have dj : decide ((j : Int) < (n : Int)) = false := by simp; omega
      go_wp2
      go_ret2
      first | exact ⟨_, L, rfl, O.out, hG.out, hb⟩ | exact ⟨_, rfl, L, O.out, hG.out, hb⟩

end Go.Proofs.Ytdfoafpcoigklaa
