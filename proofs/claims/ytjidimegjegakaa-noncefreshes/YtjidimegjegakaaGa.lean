import Derived.Test.YtjidimegjegakaaFz
import Derived.ChangeOld
import Derived.ProofKit
import Derived.OpenShut
import Derived.Deep.SlicePairs
import Derived.SizedLaws
namespace Go.Proofs.Ytjidimegjegakaa
open Go.RowKit Go.Maps Go.ChangeShapes Go.WideShapes Go.ChangeAt
set_option linter.unusedVariables false
set_option linter.unusedSimpArgs false

theorem gb_take_step {L : List St} {e p : St} {j : Nat} (h : L[j]? = some p) : gb (L.take (j + 1)) e = (gb (L.take j) e || (decide (p.n = e.n) && decide (e.v ≤ p.v))) := by
  rw [List.take_add_one, h]
  exact gb_snoc _ _ _
theorem gb_mono {L : List St} {e : St} {j i : Nat} (hji : j ≤ i) (h : gb (L.take j) e = true) : gb (L.take i) e = true := by
  unfold gb at h ⊢
  rw [Bool.or_eq_true, List.any_eq_true] at h ⊢
  rcases h with h | ⟨x, hx, h2⟩
  · exact .inl h
  · exact .inr ⟨x, (List.take_subset_take_left L hji) hx, h2⟩
set_option maxRecDepth 100000 in
set_option maxHeartbeats 2000000 in
theorem reffresh_any (L : List St) (a : Option Addr) (c : Nat) (w : World) (h : SlY yT w a L.length c L) (hf : ∀ e ∈ L, e.fits) :
    Calls Try.prog 5 #[.slice a L.length c] w fun e w' => e = .returned (.tuple #[.bool (fr L).1, .int .i64 (fr L).2]) ∧ Below w.heap.size w w' := by
  have hmx := h.max
  have hcp := h.cap
  unfold maxLen at hmx
  have H := hide h
  have HF := hide hf
  clear h hf
  have HL : Hid (fr L = frA (L.take 0) (L.drop 0) 0) := by show _ = _; simp [fr]
  generalize fr L = X at *
  go_enter Try.func5, Try.ntmps5
  go_wp2
  go_loopw [4] (fun i wr => ∃ j : Nat, i = .int .i64 (j : Int) ∧ j ≤ L.length ∧ Hid (X = frA (L.take j) (L.drop j) j) ∧ Below w.heap.size w wr) (fun i _ => L.length - (intOf i).toNat)
  case atStart => exact ⟨0, rfl, Nat.zero_le _, HL, Below.refl _ _⟩
  case round =>
    obtain ⟨j, rfl, hj, hL, hb⟩ := hrel
    by_cases hlt : j < L.length
    · have hg : L[j]? = some L[j] := List.getElem?_eq_getElem hlt
      have hat := frA_at hg
      have hfj := HF.out L[j] (List.getElem_mem hlt)
      obtain ⟨q, o, ea, hq, c0, c1, c2⟩ := (H.out.later hb).st hg
      have HE := hide (fun W (hb : Below w.heap.size w W) => (H.out.later hb).st hg)
      have hgb := gb_iff L[j] (L.take j)
      generalize hee : L[j] = e at *
      subst ea
      have b2 := hfj.l0
      have cz := fun W => refcompare_any e.h e.l 0 0 W
      have hz0 := cmpD_le (h := e.h) (h' := 0) b2 (show 0 ≤ (0 : Int) ∧ (0 : Int) < 18446744073709551616 by omega)
      have hzv : nv 0 0 = 0 := rfl
      rw [hzv] at hz0
      have hst : gb (L.take 0) e = decide (e.v ≤ 0) := by
        have : gb (L.take 0) e = (decide (e.v ≤ 0) || false) := rfl
        rw [this, Bool.or_false]
      have hv : e.v = nv e.h e.l := rfl
      rw [← hv] at hz0
      have hA : Hid (frA (L.take j) (L.drop j) j = if gb (L.take j) e = true then (false, (j : Int)) else frA (L.take (j + 1)) (L.drop (j + 1)) (j + 1)) := by
        show _ = _
        rw [hat, hgb]
        by_cases hq : e.v ≤ gx (L.take j) e.n <;> simp [hq]
      clear hat hgb hv
      have hsz := hb.size
      generalize hcz : cmpD e.h e.l 0 0 = z at *
      clear hcz hzv
      by_cases hz : e.v ≤ 0
      · have hzz : z ≤ 0 := hz0.2 hz
        have hE : Hid (X = (false, (j : Int))) := by
          show _ = _
          rw [hL.out, hA.out, if_pos (gb_mono (Nat.zero_le j) (hst.trans (by simpa using hz)))]
        clear hz0 hst hg hee
        go_wp2_with (go_at_call 7; refine (cz _).mono ?_; rintro r w1 ⟨rfl, b1⟩)
        go_ret2
        exact ⟨by rw [hE.out]; rfl, hb.trans (b1.mono hsz)⟩
      · have hzz : ¬ z ≤ 0 := fun h => hz (hz0.1 h)
        have HST : Hid (gb (L.take 0) e = false) := hst.trans (by simpa using hz)
        clear hz0 hst
        go_wp2_with (go_at_call 7; refine (cz _).mono ?_; rintro r w1 ⟨rfl, b1⟩)
        have hb1 := hb.trans (b1.mono hsz)
        clear c0 c1 c2
        go_loopw [5] (fun i wr => ∃ m : Nat, i = .int .i64 (m : Int) ∧ m ≤ j ∧ Hid (gb (L.take m) e = false) ∧ Below w.heap.size w wr) (fun i _ => j - (intOf i).toNat)
        case atStart => exact ⟨0, rfl, Nat.zero_le _, HST, hb1⟩
        case round =>
          obtain ⟨m, rfl, hm, htw, hbm⟩ := hrel
          by_cases hlm : m < j
          · have hgm : L[m]? = some L[m] := List.getElem?_eq_getElem (by omega)
            have hfm := HF.out L[m] (List.getElem_mem (by omega))
            have hs1 := gb_take_step (e := e) hgm
            obtain ⟨q2, o2, ea2, hq2, d0, d1, d2⟩ := HE.out wr hbm
            cases ea2
            obtain ⟨q3, o3, ea3, hq3, f0, f1, f2⟩ := (H.out.later hbm).st hgm
            cases ea3
            generalize hpp : L[m] = p at *
            rw [htw.out] at hs1
            have hST := hide hs1
            have hcg := cmpD_ge (h := p.h) (h' := e.h) hfm.l0 b2
            have hpv : p.v = nv p.h p.l := rfl
            have hev : e.v = nv e.h e.l := rfl
            rw [← hpv, ← hev] at hcg
            have HCG := hide hcg
            have cp := fun W => refcompare_any p.h p.l e.h e.l W
            have hszm := hbm.size
            clear hs1 hpp hgm hg hee hcg hpv hev hfm
            obtain ⟨ne, he, le⟩ := e
            obtain ⟨np, hp, lp⟩ := p
            dsimp only at d0 d1 d2 f0 f1 f2 cp HCG hST htw hA b2
            generalize cmpD hp lp he le = y at *
            by_cases hc : np = ne
            · subst hc
              have KS : Hid (∀ v, Below wr.heap.size wr v → (v.cell? ⟨q, o + m * 3, none⟩ = some (.int .i64 np) ∧ v.cell? ⟨q, o + m * 3 + 1, none⟩ = some (.int .u64 hp) ∧ v.cell? ⟨q, o + m * 3 + 2, none⟩ = some (.int .u64 lp) ∧ v.cell? ⟨q, o + j * 3, none⟩ = some (.int .i64 np) ∧ v.cell? ⟨q, o + j * 3 + 1, none⟩ = some (.int .u64 he) ∧ v.cell? ⟨q, o + j * 3 + 2, none⟩ = some (.int .u64 le))) := fun v bv =>
                ⟨(bv.cell (p := ⟨q, o + m * 3, none⟩) hq3).trans f0, (bv.cell (p := ⟨q, o + m * 3 + 1, none⟩) hq3).trans f1, (bv.cell (p := ⟨q, o + m * 3 + 2, none⟩) hq3).trans f2, (bv.cell (p := ⟨q, o + j * 3, none⟩) hq3).trans d0, (bv.cell (p := ⟨q, o + j * 3 + 1, none⟩) hq3).trans d1, (bv.cell (p := ⟨q, o + j * 3 + 2, none⟩) hq3).trans d2⟩
              have hm0 : (0 : Int) ≤ (m : Int) := by omega
              have hm1 : (m : Int) < (L.length : Int) := by omega
              have hj0 : (0 : Int) ≤ (j : Int) := by omega
              have hj1 : (j : Int) < (L.length : Int) := by omega
              by_cases hn : 0 ≤ y
              · have hE : Hid (X = (false, (j : Int))) := by
                  show _ = _
                  have ht := gb_mono (L := L) (show m + 1 ≤ j by omega) (hST.out.trans (by simp [HCG.out.1 hn]))
                  rw [hL.out, hA.out, if_pos ht]
                have hnd : decide (0 ≤ y) = true := by simpa using hn
                go_wp2_with fail
                go_region_held3 (fun v => v.cell? ⟨q, o + m * 3, none⟩ = some (.int .i64 np) ∧ v.cell? ⟨q, o + m * 3 + 1, none⟩ = some (.int .u64 hp) ∧ v.cell? ⟨q, o + m * 3 + 2, none⟩ = some (.int .u64 lp) ∧ v.cell? ⟨q, o + j * 3, none⟩ = some (.int .i64 np) ∧ v.cell? ⟨q, o + j * 3 + 1, none⟩ = some (.int .u64 he) ∧ v.cell? ⟨q, o + j * 3 + 2, none⟩ = some (.int .u64 le))
                  (first | exact KS.out _ (Below.refl _ _).drew | exact KS.out _ (by assumption))
                  (first | (go_at_call 7; refine (cp _).mono ?_; rintro r v8 ⟨rfl, bv⟩; have bb : Below wr.heap.size wr v8 := (Below.refl _ wr).drew.trans bv; clear bv))
                go_wp2
                go_ret2
                exact ⟨by rw [hE.out]; rfl, hbm.trans (bb.mono hszm)⟩
              · have hT : Hid (gb (L.take (m + 1)) ⟨np, he, le⟩ = false) := by
                  show _ = _
                  rw [hST.out]
                  have : ¬ St.v ⟨np, he, le⟩ ≤ St.v ⟨np, hp, lp⟩ := fun h => hn (HCG.out.2 h)
                  simp [this]
                have hnd : decide (0 ≤ y) = false := by simpa using hn
                go_wp2_with fail
                go_region_held3 (fun v => v.cell? ⟨q, o + m * 3, none⟩ = some (.int .i64 np) ∧ v.cell? ⟨q, o + m * 3 + 1, none⟩ = some (.int .u64 hp) ∧ v.cell? ⟨q, o + m * 3 + 2, none⟩ = some (.int .u64 lp) ∧ v.cell? ⟨q, o + j * 3, none⟩ = some (.int .i64 np) ∧ v.cell? ⟨q, o + j * 3 + 1, none⟩ = some (.int .u64 he) ∧ v.cell? ⟨q, o + j * 3 + 2, none⟩ = some (.int .u64 le))
                  (first | exact KS.out _ (Below.refl _ _).drew | exact KS.out _ (by assumption))
                  (first | (go_at_call 7; refine (cp _).mono ?_; rintro r v8 ⟨rfl, bv⟩; have bb : Below wr.heap.size wr v8 := (Below.refl _ wr).drew.trans bv; clear bv))
                go_wp2
                go_round
                case rel => exact ⟨m + 1, by go_num, by omega, hT, hbm.trans (bb.mono hszm)⟩
                case measure => simp [intOf]; omega
            · have hT : Hid (gb (L.take (m + 1)) ⟨ne, he, le⟩ = false) := by show _ = _; rw [hST.out]; simp [hc]
              have hd : decide (np = ne) = false := by simpa using hc
              have hd2 : (np == ne) = false := by simpa using hc
              go_wp2
              go_quiet (fail)
              go_wp2
              go_round
              case rel => exact ⟨m + 1, by go_num, by omega, hT, belNN hbm nq⟩
              case measure => simp [intOf]; omega
          · obtain rfl : m = j := by omega
            have hE : Hid (X = frA (L.take (m + 1)) (L.drop (m + 1)) (m + 1)) := by
              show _ = _
              rw [hL.out, hA.out, if_neg (by rw [htw.out]; simp)]
            go_wp2
            go_round
            case rel => exact ⟨m + 1, by go_num, by omega, hE, hbm⟩
            case measure => simp [intOf]; omega
    · obtain rfl : j = L.length := by omega
      have hE := hL.out
      rw [frA_end] at hE
      have HE := hide hE
      clear hE
      go_wp2
      go_ret2
      exact ⟨by rw [HE.out]; rfl, hb⟩

end Go.Proofs.Ytjidimegjegakaa
