import Derived.Test.YtnndldhljonnpaaDoorNtk
import Derived.Test.YtnndldhljonnpaaDoorNw
import Derived.Deep.RegionHeld3
import Derived.Deep.RegionWith
namespace Go.Proofs.YtnndldhljonnpaaDoor
open Go.RowKit
set_option linter.unusedVariables false
set_option linter.unusedSimpArgs false

/-- The ends that NonceForm tries. -/
def Eds : Nat → ByteArray
  | 1 => ⟨#[48]⟩
  | 2 => ⟨#[46, 48]⟩
  | 3 => ⟨#[48, 46, 48]⟩
  | _ => ⟨#[]⟩
theorem eds_size (j : Nat) : (Eds j).size ≤ 3 := by
  match j with
  | 0 => decide
  | 1 => decide
  | 2 => decide
  | 3 => decide
  | j + 4 => exact (by decide : (ByteArray.mk #[]).size ≤ 3)
theorem ps_bounds (l : List Nat) : psH l < 18446744073709551616 ∧ psL l < 18446744073709551616 := by
  have h1 := rd_top l 0 true (by omega)
  have h2 := rd_top (l.drop ((rn l).2 + 1)) 0 true (by omega)
  unfold psH psL rn at *
  omega
theorem new2 (w : World) (T : TypeId) : ∀ v, Below (w.drew.alloc (.cells #[.int .u64 0, .int .u64 0] T)).heap.size (w.drew.alloc (.cells #[.int .u64 0, .int .u64 0] T)) v → v.frozen? ⟨w.heap.size, 0, none⟩ = false ∧ v.frozen? ⟨w.heap.size, 1, none⟩ = false ∧ v.cell? ⟨w.heap.size, 0, none⟩ = some (.int .u64 0) ∧ v.cell? ⟨w.heap.size, 1, none⟩ = some (.int .u64 0) := by
  have e : w.heap.size = w.drew.heap.size := rfl
  rw [e]
  generalize w.drew = u
  intro v hv
  have lt : u.heap.size < (u.alloc (.cells #[.int .u64 0, .int .u64 0] T)).heap.size := by simp
  exact ⟨(hv.frozen (p := ⟨u.heap.size, 0, none⟩) lt).trans (by simp), (hv.frozen (p := ⟨u.heap.size, 1, none⟩) lt).trans (by simp), (hv.cell (p := ⟨u.heap.size, 0, none⟩) lt).trans (by simp), (hv.cell (p := ⟨u.heap.size, 1, none⟩) lt).trans (by simp)⟩
set_option maxRecDepth 100000 in
set_option maxHeartbeats 1000000 in
theorem form_walk (s : ByteArray) (hs : s.size ≤ 2305843009213693952) (W : World) (ht : Tab W) :
    Calls Tryd.prog 5 #[.string s] W fun e w' => e = .returned (.bool true) ∧ Below W.heap.size W w' := by
  have HT := hide ht
  have P0 := hide (parse_any s W (by omega))
  have HL := hide (bts_len s)
  by_cases ok : psOK (bts s) = true
  · obtain ⟨m1, m2, m3, m4⟩ := p_ok ok
    have E := hide (pr_ps ok)
    rw [m1, m2, m3, m4] at P0
    obtain ⟨hh, hl⟩ := ps_bounds (bts s)
    clear m1 m2 m3 m4 ok ht
    generalize psH (bts s) = h at *
    generalize psL (bts s) = l at *
    have eqS : ((prS h l).toList == s.toList) = true := by
      rw [bts_eq, bts_prS, E.out]
      simp
    clear E
    go_enter Tryd.func5, Tryd.ntmps5
    go_wp2_with fail
    refine P0.out.mono ?_
    rintro e w1 ⟨rfl, b1⟩
    dsimp only
    have B1 := hide b1
    clear b1 P0
    obtain ⟨w2, hw2⟩ : ∃ w2, w1.alloc (.cells #[.int .u64 (h : Int), .int .u64 (l : Int)] 24) = w2 := ⟨_, rfl⟩
    have B2 : Hid (Below w1.heap.size w1 w2) := by rw [← hw2]; exact (Below.refl _ _).alloc (Nat.le_refl _) _
    have x0 : w2.cell? ⟨w1.heap.size, 0, none⟩ = some (.int .u64 (h : Int)) := by rw [← hw2]; simp
    have x1 : w2.cell? ⟨w1.heap.size, 1, none⟩ = some (.int .u64 (l : Int)) := by rw [← hw2]; simp
    have B02 : Hid (Below W.heap.size W w2) := B1.out.trans (B2.out.mono B1.out.size)
    have PR := hide (print_any h l hh hl w2 (HT.out.of_below B02.out))
    go_wp2_with fail
    clear hw2 x0 x1
    refine PR.out.mono ?_
    rintro e w3 ⟨rfl, b3⟩
    dsimp only
    have B3 := hide b3
    clear b3 PR
    go_wp2_with fail
    refine (works_any w3).mono ?_
    rintro e w4 ⟨rfl, b4⟩
    dsimp only
    have B4 : Hid (Below W.heap.size W w4) := (B02.out.trans (B3.out.mono B02.out.size)).trans (b4.mono (Nat.le_trans B02.out.size B3.out.size))
    clear b4
    go_wp2
    go_ret
    exact ⟨rfl, B4.out⟩
  · have ok : psOK (bts s) = false := by simpa using ok
    obtain ⟨m1, m2, m3, m4⟩ := p_no ok
    rw [m1, m2, m3, m4] at P0
    have EO := hide (ends_ok (bts s))
    have hpl : place (bts s) ≤ s.size := by rw [← HL.out]; exact place_le _
    clear m1 m2 m3 m4 ok ht
    generalize place (bts s) = p at *
    go_enter Tryd.func5, Tryd.ntmps5
    go_wp2_with fail
    refine P0.out.mono ?_
    rintro e w1 ⟨rfl, b1⟩
    dsimp only
    have B1 := hide b1
    clear b1 P0
    have hp2 : ¬ (s.size < p) := by omega
    go_wp2
    obtain ⟨g, hg⟩ : ∃ g, w1.heap.size + 1 = g := ⟨_, rfl⟩
    rw [hg]
    have X : Hid (∀ T, (∀ j, j < 4 → ((w1.alloc (.cells #[.int .u64 0, .int .u64 0] 24)).alloc (.cells #[.string ⟨#[]⟩, .string ⟨#[48]⟩, .string ⟨#[46, 48]⟩, .string ⟨#[48, 46, 48]⟩] T)).cell? ⟨g, j, none⟩ = some (.string (Eds j))) ∧ ((w1.alloc (.cells #[.int .u64 0, .int .u64 0] 24)).alloc (.cells #[.string ⟨#[]⟩, .string ⟨#[48]⟩, .string ⟨#[46, 48]⟩, .string ⟨#[48, 46, 48]⟩] T)).heap.size = g + 1 ∧ Below W.heap.size W ((w1.alloc (.cells #[.int .u64 0, .int .u64 0] 24)).alloc (.cells #[.string ⟨#[]⟩, .string ⟨#[48]⟩, .string ⟨#[46, 48]⟩, .string ⟨#[48, 46, 48]⟩] T))) := fun T => by
      refine ⟨fun j hj => ?_, by simp; omega, (B1.out.alloc B1.out.size _).alloc (by have := B1.out.size; simp; omega) _⟩
      have e : g = (w1.alloc (.cells #[.int .u64 0, .int .u64 0] 24)).heap.size := by simp; omega
      rw [e]
      match j, hj with
      | 0, _ => simp [Eds]
      | 1, _ => simp [Eds]
      | 2, _ => simp [Eds]
      | 3, _ => simp [Eds]
    have HG := hide hg
    clear hg
    obtain ⟨x1, x2, x3⟩ := X.out 9
    generalize (w1.alloc (.cells #[.int .u64 0, .int .u64 0] 24)).alloc (.cells #[.string ⟨#[]⟩, .string ⟨#[48]⟩, .string ⟨#[46, 48]⟩, .string ⟨#[48, 46, 48]⟩] 9) = w3 at *
    have X1 := hide x1
    have X2 := hide x2
    have X3 := hide x3
    clear x1 x2 x3 X
    go_loopw [7] (fun i wr => ∃ j : Nat, i = .int .i64 (j : Int) ∧ j ≤ 4 ∧ Hid (∀ k, k < j → psOK ((bts s).take p ++ bts (Eds k)) = false) ∧ Hid (Below w3.heap.size w3 wr)) (fun i _ => 4 - (intOf i).toNat)
    case atStart => exact ⟨0, rfl, by omega, fun k hk => by omega, Below.refl _ _⟩
    case round =>
      obtain ⟨j, rfl, hj, HJ, HB⟩ := hrel
      by_cases j4 : j < 4
      · obtain ⟨E, hE⟩ : ∃ E, Eds j = E := ⟨_, rfl⟩
        have KC : Hid (∀ v, Below w3.heap.size w3 v → v.cell? ⟨g, j, none⟩ = some (.string E)) := fun v hv => by
          rw [← hE]
          exact (hv.cell (p := ⟨g, j, none⟩) (by rw [X2.out]; show g < g + 1; omega)).trans (X1.out j j4)
        have es : E.size ≤ 3 := by rw [← hE]; exact eds_size j
        have xs : (s.extract 0 p).size = p := by rw [ByteArray.size_extract]; omega
        have bx : Hid (bts (s.extract 0 p ++ E) = (bts s).take p ++ bts (Eds j)) := by unfold Hid; rw [bts_app, bts_take, hE]
        have PX := hide (fun v => parse_any (s.extract 0 p ++ E) v (by rw [ByteArray.size_append, xs]; omega))
        rw [bx.out] at PX
        have hsum : ¬ (9223372036854775807 < (s.extract 0 p).size + E.size) := by rw [xs]; omega
        have HE := hide hE
        clear hE bx
        have s0 := KC.out wr.drew HB.out.drew
        by_cases ok : psOK ((bts s).take p ++ bts (Eds j)) = true
        · obtain ⟨m1, m2, m3, m4⟩ := p_ok ok
          rw [m1, m2, m3, m4] at PX
          clear m1 m2 m3 m4 ok
          generalize (psH ((bts s).take p ++ bts (Eds j)) : Int) = ph at *
          generalize (psL ((bts s).take p ++ bts (Eds j)) : Int) = pl at *
          have s1 : ∀ o, (wr.drew.alloc o).cell? ⟨g, j, none⟩ = some (.string E) := fun o => KC.out _ (HB.out.drew.alloc (by have := HB.out.size; simpa using this) o)
          have s2 : ∀ o, (wr.alloc o).cell? ⟨g, j, none⟩ = some (.string E) := fun o => KC.out _ (HB.out.alloc (by have := HB.out.size; simpa using this) o)
          have NH := hide (new2 wr 24)
          have FA := hide (fun v (hv : Below wr.drew.heap.size wr.drew v) => (Below.refl wr.heap.size wr).drew.trans hv)
          have FC := hide (fun v (hv : Below (wr.drew.alloc (.cells #[.int .u64 0, .int .u64 0] 24)).heap.size (wr.drew.alloc (.cells #[.int .u64 0, .int .u64 0] 24)) v) => ((Below.refl wr.heap.size wr).drew.alloc (Nat.le_refl _) (.cells #[.int .u64 0, .int .u64 0] 24)).trans (hv.mono (by rw [World.size_alloc]; exact Nat.le_succ _)))
          have FZ := hide (fun v (hv : Below wr.heap.size wr v) => (X3.out.trans (HB.out.mono X3.out.size)).trans (hv.mono (Nat.le_trans X3.out.size HB.out.size)))
          go_wp2_with fail
          go_region_with (go_at_call 7; refine (PX.out _).mono ?_; rintro e w4 ⟨rfl, b4⟩; first | (have f4 := NH.out w4 b4; obtain ⟨f0, f1, y0, y1⟩ := f4; have b5 := hide (FC.out w4 b4); clear b4) | (have b5 := hide (FA.out w4 b4); clear b4))
          all_goals
            go_wp2
            go_ret
            first
              | (have := f0; exact ⟨rfl, FZ.out _ ((b5.out.setCell (p := ⟨wr.heap.size, 0, none⟩) (Nat.le_refl _) _).setCell (p := ⟨wr.heap.size, 1, none⟩) (Nat.le_refl _) _)⟩)
              | exact ⟨rfl, FZ.out _ (b5.out.alloc b5.out.size _)⟩
        · have ok : psOK ((bts s).take p ++ bts (Eds j)) = false := by simpa using ok
          obtain ⟨m1, m2, m3, m4⟩ := p_no ok
          rw [m1, m2, m3, m4] at PX
          have HJ2 : Hid (∀ k, k < j + 1 → psOK ((bts s).take p ++ bts (Eds k)) = false) := fun k hk => by
            by_cases e : k = j
            · rw [e]; exact ok
            · exact HJ.out k (by omega)
          clear m1 m2 m3 m4 ok HJ
          generalize (place ((bts s).take p ++ bts (Eds j)) : Int) = pa at *
          have s1 : ∀ o, (wr.drew.alloc o).cell? ⟨g, j, none⟩ = some (.string E) := fun o => KC.out _ (HB.out.drew.alloc (by have := HB.out.size; simpa using this) o)
          have s2 : ∀ o, (wr.alloc o).cell? ⟨g, j, none⟩ = some (.string E) := fun o => KC.out _ (HB.out.alloc (by have := HB.out.size; simpa using this) o)
          have NH := hide (new2 wr 24)
          have FA := hide (fun v (hv : Below wr.drew.heap.size wr.drew v) => (Below.refl wr.heap.size wr).drew.trans hv)
          have FC := hide (fun v (hv : Below (wr.drew.alloc (.cells #[.int .u64 0, .int .u64 0] 24)).heap.size (wr.drew.alloc (.cells #[.int .u64 0, .int .u64 0] 24)) v) => ((Below.refl wr.heap.size wr).drew.alloc (Nat.le_refl _) (.cells #[.int .u64 0, .int .u64 0] 24)).trans (hv.mono (by rw [World.size_alloc]; exact Nat.le_succ _)))
          have FZ := hide (fun v (hv : Below wr.heap.size wr v) => HB.out.trans (hv.mono HB.out.size))
          go_wp2_with fail
          go_region_with (go_at_call 7; refine (PX.out _).mono ?_; rintro e w4 ⟨rfl, b4⟩; first | (have f4 := NH.out w4 b4; obtain ⟨f0, f1, y0, y1⟩ := f4; have b5 := hide (FC.out w4 b4); clear b4) | (have b5 := hide (FA.out w4 b4); clear b4))
          all_goals
            go_wp2
            refine ⟨⟨j + 1, by go_num, by omega, HJ2, ?_⟩, by simp [intOf]; omega⟩
            first
              | (have := f0; exact FZ.out _ ((b5.out.setCell (p := ⟨wr.heap.size, 0, none⟩) (Nat.le_refl _) _).setCell (p := ⟨wr.heap.size, 1, none⟩) (Nat.le_refl _) _))
              | exact FZ.out _ (b5.out.alloc b5.out.size _)
      · obtain rfl : j = 4 := by omega
        exfalso
        have e0 := HJ.out 0 (by omega)
        have e1 := HJ.out 1 (by omega)
        have e2 := HJ.out 2 (by omega)
        have e3 := HJ.out 3 (by omega)
        have t0 : bts (Eds 0) = [] := rfl
        have t1 : bts (Eds 1) = [48] := rfl
        have t2 : bts (Eds 2) = [46, 48] := rfl
        have t3 : bts (Eds 3) = [48, 46, 48] := rfl
        rw [t0] at e0
        rw [t1] at e1
        rw [t2] at e2
        rw [t3] at e3
        rcases EO.out with h | h | h | h
        · rw [e0] at h; cases h
        · rw [e1] at h; cases h
        · rw [e2] at h; cases h
        · rw [e3] at h; cases h
theorem form_came (s : ByteArray) (W : World) (hs : s.size ≤ 2305843009213693952) (ht : Tab W) :
    Calls Tryd.prog 5 #[.string s] W fun e w' => e = .returned (.bool true) ∧ Below W.heap.size W w' := form_walk s hs W ht

end Go.Proofs.YtnndldhljonnpaaDoor
